/- The evaluator on values that are not known: one equation for each step. -/
import Derived.Test.YtjhgingmbklhaaaEvJq
namespace Go.Proofs.Ytjhgingmbklhaaa.Ev
set_option linter.unusedVariables false
open Go

/-- An int. -/
noncomputable def I (z : Int) : V := mkI .i64 z
theorem n_I {a : Nat} (h : a < 9223372036854775808) : V.n a = I a := by
  show _ = mkI .i64 (Int.ofNat a)
  simp only [mkI, fN_eq]
  have : Nat.blt a 9223372036854775808 = true := by rw [Nat.blt_eq]; exact h
  rw [this]
theorem n_lit (k : Nat) (h : Nat.blt k 9223372036854775808 = true) : V.n (OfNat.ofNat k) = I (OfNat.ofNat k) := n_I (a := k) (Nat.blt_eq.mp h)
theorem onK_I {β : Type} (z : Int) (f : IntKind → Int → β) (s : β) : onK (I z) f s = f .i64 z := by
  cases z with
  | ofNat a =>
    simp only [I, mkI, fN_eq]
    cases Nat.blt a 9223372036854775808 <;> rfl
  | negSucc a => simp only [I, mkI, fN_eq]; rfl
theorem onN_I {β : Type} {z : Int} (f : Nat → β) (s : β) (h0 : 0 ≤ z) (h1 : z < 9223372036854775808) : onN (I z) f s = f z.toNat := by
  obtain ⟨a, rfl⟩ := Int.eq_ofNat_of_zero_le h0
  rw [← n_I (by omega)]
  simp [onN, V.asN]
theorem onN_neg {β : Type} {z : Int} (h0 : ¬ (0 ≤ z ∧ z < 9223372036854775808)) (f : Nat → β) (s : β) : onN (I z) f s = s := by
  cases z with
  | ofNat a =>
    simp only [I, mkI, fN_eq]
    cases h : Nat.blt a 9223372036854775808
    · rfl
    · rw [Nat.blt_eq] at h; exact absurd ⟨by simp, by simp; omega⟩ h0
  | negSucc a => simp only [I, mkI, fN_eq]; rfl
theorem onI_I {β : Type} {z : Int} (f : Nat → β) (s : β) (h0 : 0 ≤ z) : onI (I z) f s = f z.toNat := by
  obtain ⟨a, rfl⟩ := Int.eq_ofNat_of_zero_le h0
  show onI (mkI .i64 (Int.ofNat a)) f s = _
  simp only [mkI, fN_eq]
  cases Nat.blt a 9223372036854775808 <;> rfl
theorem I_rel {g : Sig} {z : Int} : (I z).rel g (.int .i64 z) := mkI_rel g .i64 z
theorem I_rel_iff {g : Sig} {z : Int} {u : Value} : (I z).rel g u ↔ u = .int .i64 z := by
  constructor
  · cases z with
    | ofNat a =>
      simp only [I, mkI, fN_eq]
      cases Nat.blt a 9223372036854775808
      · intro h; rw [V.rel] at h; exact h
      · intro h; rw [V.rel] at h; exact h.1
    | negSucc a => simp only [I, mkI, fN_eq]; intro h; rw [V.rel] at h; exact h
  · rintro rfl; exact I_rel
theorem I_ne (z : Int) : I z ≠ .bad := by
  cases z with
  | ofNat a => simp only [I, mkI, fN_eq]; cases Nat.blt a 9223372036854775808 <;> simp
  | negSucc a => simp only [I, mkI, fN_eq]; simp
theorem I_cases (z : Int) : (∃ a, I z = .n a) ∨ ∃ k y, I z = .i k y := by
  cases z with
  | ofNat a => simp only [I, mkI, fN_eq]; cases Nat.blt a 9223372036854775808 <;> simp
  | negSucc a => simp only [I, mkI, fN_eq]; simp
theorem I_pur (z : Int) : (I z).pur = true := by rcases I_cases z with ⟨a, e⟩ | ⟨k, y, e⟩ <;> rw [e] <;> rfl
theorem I_isC (z : Int) : (I z).isC = true := by rcases I_cases z with ⟨a, e⟩ | ⟨k, y, e⟩ <;> rw [e] <;> rfl
theorem I_known (z : Int) : (I z).known = true := by rcases I_cases z with ⟨a, e⟩ | ⟨k, y, e⟩ <;> rw [e] <;> rfl
theorem pv_I (z : Int) (h : Hp) (n : Nat) : pv (I z) h n = .ok (I z) h n := by rcases I_cases z with ⟨a, e⟩ | ⟨k, y, e⟩ <;> rw [e] <;> rfl
theorem pv_i (k : IntKind) (z : Int) (h : Hp) (n : Nat) : pv (.i k z) h n = .ok (.i k z) h n := rfl
theorem pv_b (z : Bool) (h : Hp) (n : Nat) : pv (.b z) h n = .ok (.b z) h n := rfl
theorem pv_s (z : List Nat) (h : Hp) (n : Nat) : pv (.s z) h n = .ok (.s z) h n := rfl
theorem pv_ns (h : Hp) (n : Nat) : pv .ns h n = .ok .ns h n := rfl
theorem pv_sl (a : Pos) (x y z : Nat) (c : Option Nat) (h : Hp) (n : Nat) : pv (.sl a x y z c) h n = .ok (.sl a x y z c) h n := rfl
theorem pv_p (a : Pos) (x : Nat) (h : Hp) (n : Nat) : pv (.p a x) h n = .ok (.p a x) h n := rfl
theorem pv_tu (l : L) (h : Hp) (n : Nat) : pv (.tu l) h n = .ok (.tu l) h n := rfl
theorem pv_ag (l : L) (h : Hp) (n : Nat) : pv (.ag l) h n = .ok (.ag l) h n := rfl
theorem wrap64 {z : Int} (h0 : -9223372036854775808 ≤ z) (h1 : z < 9223372036854775808) : IntKind.i64.wrap z = z := by rw [IntKind.wrap_i64]; omega
theorem slow_I (op : BinOp) (a b : Int) (h : op ≠ .shl) (h' : op ≠ .shr) : slowB op (I a) (I b) = slowI op .i64 a b := by
  cases op <;> first | exact absurd rfl h | exact absurd rfl h' | simp [slowB, onK_I]
theorem onNN_I {a b : Int} {f : Nat → Nat → V} {S R : V} (hS : S = R) (hf : ∀ p q : Nat, a = p → b = q → p < 9223372036854775808 → q < 9223372036854775808 → f p q = R) : onNN (I a) (I b) f S = R := by
  unfold onNN
  by_cases ha : 0 ≤ a ∧ a < 9223372036854775808
  · rw [onN_I _ _ ha.1 ha.2]
    by_cases hb : 0 ≤ b ∧ b < 9223372036854775808
    · rw [onN_I _ _ hb.1 hb.2]
      exact hf _ _ (Int.toNat_of_nonneg ha.1).symm (Int.toNat_of_nonneg hb.1).symm (by omega) (by omega)
    · rw [onN_neg hb, hS]
  · rw [onN_neg ha, hS]
theorem small_I {c : Nat} {s R : V} (hs : s = R) (h : c < 9223372036854775808 → V.n c = R) : small c s = R := by
  rcases small_or c s with ⟨h', e⟩ | e
  · rw [e, h h']
  · rw [e, hs]
theorem sadd (a b : Int) : slowB .add (I a) (I b) = I (IntKind.i64.wrap (a + b)) := slow_I _ _ _ (by simp) (by simp)
theorem bin_add_w (a b : Int) : binV .add (I a) (I b) = I (IntKind.i64.wrap (a + b)) :=
  (binV_eq _ _ _).trans <| onNN_I (sadd a b) fun p q hp hq _ _ => small_I (sadd a b) fun h => by
    rw [n_I h, hp, hq, ← wrap_nat h]; simp
theorem bin_add {a b : Int} (h0 : -9223372036854775808 ≤ a + b) (h1 : a + b < 9223372036854775808) : binV .add (I a) (I b) = I (a + b) := by rw [bin_add_w, wrap64 h0 h1]
theorem ssub (a b : Int) : slowB .sub (I a) (I b) = I (IntKind.i64.wrap (a - b)) := slow_I _ _ _ (by simp) (by simp)
theorem bin_sub_w (a b : Int) : binV .sub (I a) (I b) = I (IntKind.i64.wrap (a - b)) :=
  (binV_eq _ _ _).trans <| onNN_I (ssub a b) fun p q hp hq h1 h2 => by
    cases hb : Nat.ble q p
    · exact ssub a b
    · rw [Nat.ble_eq] at hb
      show fN (p - q) V.n = _
      rw [fN_eq, n_I (by omega), hp, hq, wrap64 (by omega) (by omega)]
      congr 1; omega
theorem bin_sub {a b : Int} (h0 : -9223372036854775808 ≤ a - b) (h1 : a - b < 9223372036854775808) : binV .sub (I a) (I b) = I (a - b) := by rw [bin_sub_w, wrap64 h0 h1]
theorem smul (a b : Int) : slowB .mul (I a) (I b) = I (IntKind.i64.wrap (a * b)) := slow_I _ _ _ (by simp) (by simp)
theorem bin_mul_w (a b : Int) : binV .mul (I a) (I b) = I (IntKind.i64.wrap (a * b)) :=
  (binV_eq _ _ _).trans <| onNN_I (smul a b) fun p q hp hq _ _ => small_I (smul a b) fun h => by
    have h' : p * q < 9223372036854775808 := h
    rw [n_I h, hp, hq, ← wrap_nat h]; simp
theorem bin_mul {a b : Int} (h0 : -9223372036854775808 ≤ a * b) (h1 : a * b < 9223372036854775808) : binV .mul (I a) (I b) = I (a * b) := by rw [bin_mul_w, wrap64 h0 h1]
theorem bin_quo_w {a b : Int} (h : b ≠ 0) : binV .quo (I a) (I b) = I (IntKind.i64.wrap (a.tdiv b)) := by
  have hs : slowB .quo (I a) (I b) = I (IntKind.i64.wrap (a.tdiv b)) := by rw [slow_I _ _ _ (by simp) (by simp)]; simp only [slowI, if_neg h]; rfl
  refine (binV_eq _ _ _).trans (onNN_I hs fun p q hp hq h1 h2 => ?_)
  have hq0 : q ≠ 0 := by omega
  have : Nat.beq q 0 = false := by
    cases hx : Nat.beq q 0
    · rfl
    · rw [Nat.beq_eq] at hx; exact absurd hx hq0
  rw [this]
  show fN (p / q) V.n = _
  have hlt : p / q < 9223372036854775808 := Nat.lt_of_le_of_lt (Nat.div_le_self _ _) h1
  rw [fN_eq, n_I hlt, hp, hq, ← wrap_nat hlt]; rfl
theorem bin_quo {a b : Int} (h : 0 < b) (h0 : 0 ≤ a) (h1 : a < 9223372036854775808) : binV .quo (I a) (I b) = I (a / b) := by
  rw [bin_quo_w (by omega)]
  have e := Int.tdiv_eq_ediv_of_nonneg (b := b) h0
  have h2 := Int.ediv_nonneg h0 (Int.le_of_lt h)
  have h3 := Int.ediv_le_self b h0
  rw [e, wrap64 (by omega) (by omega)]
theorem bin_rem {a b : Int} (h : 0 < b) (h0 : 0 ≤ a) : binV .rem (I a) (I b) = I (a % b) := by
  have hs : slowB .rem (I a) (I b) = I (a % b) := by
    rw [slow_I _ _ _ (by simp) (by simp)]; simp only [slowI, if_neg (show ¬ b = 0 by omega)]
    rw [Int.tmod_eq_emod_of_nonneg h0]; rfl
  refine (binV_eq _ _ _).trans (onNN_I hs fun p q hp hq h1 h2 => ?_)
  have hq0 : q ≠ 0 := by omega
  have : Nat.beq q 0 = false := by
    cases hx : Nat.beq q 0
    · rfl
    · rw [Nat.beq_eq] at hx; exact absurd hx hq0
  rw [this]
  show fN (p % q) V.n = _
  rw [fN_eq, n_I (Nat.lt_of_le_of_lt (Nat.mod_le _ _) h1), hp, hq]; simp
theorem bin_lss (a b : Int) : binV .lss (I a) (I b) = .b (decide (a < b)) :=
  (binV_eq _ _ _).trans <| onNN_I (by rw [slow_I _ _ _ (by simp) (by simp)]; simp only [slowI]; rw [fB_eq]) fun p q hp hq _ _ => by
    show fB _ = _
    rw [fB_eq, hp, hq]; congr 1
    rw [Bool.eq_iff_iff, Nat.blt_eq, decide_eq_true_eq]; omega
theorem bin_leq (a b : Int) : binV .leq (I a) (I b) = .b (decide (a ≤ b)) :=
  (binV_eq _ _ _).trans <| onNN_I (by rw [slow_I _ _ _ (by simp) (by simp)]; simp only [slowI]; rw [fB_eq]) fun p q hp hq _ _ => by
    show fB _ = _
    rw [fB_eq, hp, hq]; congr 1
    rw [Bool.eq_iff_iff, Nat.ble_eq, decide_eq_true_eq]; omega
theorem bin_gtr (a b : Int) : binV .gtr (I a) (I b) = .b (decide (b < a)) :=
  (binV_eq _ _ _).trans <| onNN_I (by rw [slow_I _ _ _ (by simp) (by simp)]; simp only [slowI]; rw [fB_eq]) fun p q hp hq _ _ => by
    show fB _ = _
    rw [fB_eq, hp, hq]; congr 1
    rw [Bool.eq_iff_iff, Nat.blt_eq, decide_eq_true_eq]; omega
theorem bin_geq (a b : Int) : binV .geq (I a) (I b) = .b (decide (b ≤ a)) :=
  (binV_eq _ _ _).trans <| onNN_I (by rw [slow_I _ _ _ (by simp) (by simp)]; simp only [slowI]; rw [fB_eq]) fun p q hp hq _ _ => by
    show fB _ = _
    rw [fB_eq, hp, hq]; congr 1
    rw [Bool.eq_iff_iff, Nat.ble_eq, decide_eq_true_eq]; omega
theorem bin_eql (a b : Int) : binV .eql (I a) (I b) = .b (decide (a = b)) :=
  (binV_eq _ _ _).trans <| onNN_I (by rw [slow_I _ _ _ (by simp) (by simp)]; simp only [slowI]; rw [fB_eq]; congr 1) fun p q hp hq _ _ => by
    show fB _ = _
    rw [fB_eq, hp, hq]; congr 1
    rw [Bool.eq_iff_iff, Nat.beq_eq, decide_eq_true_eq]; omega
theorem bin_neq (a b : Int) : binV .neq (I a) (I b) = .b (!decide (a = b)) :=
  (binV_eq _ _ _).trans <| onNN_I (by rw [slow_I _ _ _ (by simp) (by simp)]; simp only [slowI]; rw [fB_eq]; congr 1) fun p q hp hq _ _ => by
    show (Bool.rec (.b true) (.b false) (Nat.beq p q) : V) = _
    have : Nat.beq p q = decide (a = b) := by rw [Bool.eq_iff_iff, Nat.beq_eq, decide_eq_true_eq]; omega
    rw [this]; cases decide (a = b) <;> rfl
/-! Numbers of another kind. -/
theorem onN_i {β : Type} (k : IntKind) (a : Int) (f : Nat → β) (z : β) : onN (.i k a) f z = z := rfl
theorem bin8_eql (k : IntKind) (a b : Int) : binV .eql (.i k a) (.i k b) = .b (decide (a = b)) := by
  have e : binV .eql (.i k a) (.i k b) = slowI .eql k a b := (binV_eq _ _ _).trans (if_pos rfl)
  rw [e]
  simp only [slowI]
  rw [fB_eq]; congr 1
theorem bin8_neq (k : IntKind) (a b : Int) : binV .neq (.i k a) (.i k b) = .b (!decide (a = b)) := by
  have e : binV .neq (.i k a) (.i k b) = slowI .neq k a b := (binV_eq _ _ _).trans (if_pos rfl)
  rw [e]
  simp only [slowI]
  rw [fB_eq]; congr 1

theorem JQ.step {P : Program} {dr : List Nat} {N lim n : Nat} {F : FF} {qa qb : IC} {K : Rs → Prop} {e : Tr} {h : Hp} (hP : P.follows .mixedOrders = true) (hF : FOK P F) (hM : F.mono) (j : Got (Kseq (JQ P dr N F qb lim K) K) (evC qa F lim e h n)) : JQ P dr N F (.seq qa qb) lim K e h n := JQ.seq (JQ.run hP hF hM j)

/-! Slots. -/
theorem get_st (t : Tr) (x : V) (i j : Nat) (hi : i < 4294967296) (hj : j < 4294967296) : (t.set x (tp i)).get (tp j) = if j = i then x else t.get (tp j) := by
  rw [Tr.get_set]
  by_cases h : j = i
  · subst h; simp
  · rw [if_neg h, if_neg (fun e => h (tp_inj hj hi e))]
theorem get_lf (j : Nat) : Tr.lf.get (tp j) = .bad := Tr.get_lf _
theorem bind_nil (k : Nat) (e : Tr) : bind .nil k e = e := rfl
theorem bind_cons (v : V) (l : L) (k : Nat) (e : Tr) : bind (.cons v l) k e = bind l (k + 1) (e.set v (tp k)) := rfl

/-! Pieces. -/
noncomputable def bindR (r : Res) (d : Option Pos) (l : RL) (F : FF) (lim : Nat) (e : Tr) : Rg :=
  match r with
  | .no => .no
  | .ok v h n => match d with
    | some p => evR l F lim (e.set v p) h n
    | none => evR l F lim e h n
section
variable (F : FF) (lim : Nat) (e : Tr) (h : Hp) (n : Nat)
theorem evR_nil : evR .nil F lim e h n = .ok e h n := rfl
theorem evR_cons (d : Option Pos) (o : O) (l : RL) : evR (.cons d none o l) F lim e h n = bindR (o.ev F e lim h n) d l F lim e := by
  show runR d o (evR l) F lim e h n = _
  unfold runR bindR
  cases o.ev F e lim h n with
  | no => rfl
  | ok v h' n' =>
    show putd d v e (fun e' => evR l F lim e' h' n') = _
    cases d with
    | none => rfl
    | some p => rfl
theorem bindR_ok (v : V) (p : Pos) (l : RL) : bindR (.ok v h n) (some p) l F lim e = evR l F lim (e.set v p) h n := rfl
theorem bindR_okn (v : V) (l : RL) : bindR (.ok v h n) none l F lim e = evR l F lim e h n := rfl
noncomputable def guardB (g : V) (b : Bool) (d : Option Pos) (o : O) (l : RL) : Rg :=
  guardR g b (runR d o (evR l) F lim e h n) (putd d (.tu .nil) e fun e' => evR l F lim e' h n) .no
theorem evR_gd (d : Option Pos) (gd : Pos × Bool) (o : O) (l : RL) : evR (.cons d (some gd) o l) F lim e h n = guardB F lim e h n (e.get gd.1) gd.2 d o l := rfl
theorem guardB_run (t b : Bool) (d : Option Pos) (o : O) (l : RL) (hb : t = b) : guardB F lim e h n (.b t) b d o l = evR (.cons d none o l) F lim e h n := by
  subst hb; cases t <;> rfl
theorem guardB_skip (t b : Bool) (p : Pos) (o : O) (l : RL) (hb : t = !b) : guardB F lim e h n (.b t) b (some p) o l = evR l F lim (e.set (.tu .nil) p) h n := by
  subst hb; cases b <;> rfl
theorem guardB_tt (d : Option Pos) (o : O) (l : RL) : guardB F lim e h n (.b true) true d o l = evR (.cons d none o l) F lim e h n := rfl
theorem guardB_ff (d : Option Pos) (o : O) (l : RL) : guardB F lim e h n (.b false) false d o l = evR (.cons d none o l) F lim e h n := rfl
theorem guardB_tf (p : Pos) (o : O) (l : RL) : guardB F lim e h n (.b true) false (some p) o l = evR l F lim (e.set (.tu .nil) p) h n := guardB_skip F lim e h n true false p o l rfl
theorem guardB_ft (p : Pos) (o : O) (l : RL) : guardB F lim e h n (.b false) true (some p) o l = evR l F lim (e.set (.tu .nil) p) h n := guardB_skip F lim e h n false true p o l rfl
theorem guardB_none (b : Bool) (p : Pos) (o : O) (l : RL) : guardB F lim e h n (.tu .nil) b (some p) o l = evR l F lim (e.set (.tu .nil) p) h n := rfl
noncomputable def seqR (r : Rs) (q : IC) : Rs := match r with | .no => .no | .nor e h n => evC q F lim e h n | .ext i e h n => .ext i e h n | .ret e h n => .ret e h n
theorem evC_seq (a b : IC) : evC (.seq a b) F lim e h n = seqR F lim (evC a F lim e h n) b := by
  show evSeq (evC a) (evC b) F lim e h n = _
  unfold evSeq seqR
  cases evC a F lim e h n <;> rfl
theorem seqR_nor (q : IC) : seqR F lim (.nor e h n) q = evC q F lim e h n := rfl
theorem seqR_ext (i : Nat) (q : IC) : seqR F lim (.ext i e h n) q = .ext i e h n := rfl
theorem seqR_ret (q : IC) : seqR F lim (.ret e h n) q = .ret e h n := rfl
theorem evC_reg (l : RL) : evC (.reg l) F lim e h n = rgRs (evR l F lim e h n) := rfl
theorem evC_draw (l : DR) : evC (.draw l) F lim e h n = rgRs (evDr l F lim e h n) := rfl
theorem rgRs_ok : rgRs (.ok e h n) = .nor e h n := rfl
theorem evC_ret : evC .ret F lim e h n = .ret e h n := rfl
theorem evC_skip : evC .skip F lim e h n = .nor e h n := rfl
theorem evC_exit (i : Nat) : evC (.exit i) F lim e h n = .ext i e h n := rfl
noncomputable def condR (v : V) (a b : IC) : Rs := onB v (fun t => Bool.rec (evC b F lim e h n) (evC a F lim e h n) t) .no
theorem evC_cond (x : X) (a b : IC) : evC (.cond x a b) F lim e h n = condR F lim e h n (evX x e) a b := rfl
theorem condR_true (a b : IC) : condR F lim e h n (.b true) a b = evC a F lim e h n := rfl
theorem condR_false (a b : IC) : condR F lim e h n (.b false) a b = evC b F lim e h n := rfl
noncomputable def blockR (id : Nat) (r : Rs) : Rs := match r with | .no => .no | .nor e h n => .nor e h n | .ext i e h n => if i = id then .nor e h n else .ext i e h n | .ret e h n => .ret e h n
theorem evC_block (id : Nat) (b : IC) : evC (.block id b) F lim e h n = blockR id (evC b F lim e h n) := by
  show evBlock id (evC b) F lim e h n = _
  unfold evBlock blockR
  cases evC b F lim e h n with
  | ext i e h n =>
    show (Bool.rec (.ext i e h n) (.nor e h n) (Nat.beq i id) : Rs) = _
    by_cases hi : i = id
    · subst hi
      have : Nat.beq i i = true := by rw [Nat.beq_eq]
      rw [this]; simp
    · have : Nat.beq i id = false := by
        cases hb : Nat.beq i id
        · rfl
        · rw [Nat.beq_eq] at hb; exact absurd hb hi
      rw [this]; simp [hi]
  | _ => rfl
theorem blockR_nor (id : Nat) : blockR id (.nor e h n) = .nor e h n := rfl
theorem blockR_ext (id i : Nat) : blockR id (.ext i e h n) = if i = id then .nor e h n else .ext i e h n := rfl
theorem blockR_ret (id : Nat) : blockR id (.ret e h n) = .ret e h n := rfl
theorem evX_t (p : Pos) : evX (.t p) e = e.get p := rfl
theorem evX_c (v : V) : evX (.c v) e = v := rfl
theorem evXL_nil : evXL .nil e = .nil := rfl
theorem evXL_cons (x : X) (l : XL) : evXL (.cons x l) e = .cons (evX x e) (evXL l e) := rfl

/-! Operations. -/
theorem O_mv (x : X) : (O.mv x).ev F e lim h n = .ok (evX x e) h n := rfl
theorem O_bin (op : BinOp) (x y : X) : (O.bin op x y).ev F e lim h n = pv (binV op (evX x e) (evX y e)) h n := rfl
theorem O_pick (c a b : X) : (O.pick c a b).ev F e lim h n = pv (onB (evX c e) (fun t => Bool.rec (evX b e) (evX a e) t) .bad) h n := rfl
theorem O_eqb (m : Bool) (x y : X) : (O.eqb m x y).ev F e lim h n = pv (eqbV m (evX x e) (evX y e)) h n := rfl
theorem O_not (x : X) : (O.not x).ev F e lim h n = pv (onB (evX x e) (fun t => Bool.rec (.b true) (.b false) t) .bad) h n := rfl
theorem O_ext (i : Nat) (x : X) : (O.ext i x).ev F e lim h n = pv (onT (evX x e) (fun l => nthL i l) .bad) h n := rfl
theorem O_call (f : Nat) (xs : XL) : (O.call f xs).ev F e lim h n = F f (evXL xs e) lim h n := rfl
theorem O_conv (k : IntKind) (x : X) : (O.conv k x).ev F e lim h n = pv (onK (evX x e) (fun _ z => mkI k (k.wrap z)) .bad) h n := rfl
theorem O_slen (x : X) : (O.slen x).ev F e lim h n = pv (onStr (evX x e) (fun l => small l.length .bad) .bad) h n := rfl
theorem O_six (x i : X) : (O.six x i).ev F e lim h n = pv (onStr (evX x e) (fun l => onI (evX i e) (fun j => nthS l j) .bad) .bad) h n := rfl
theorem O_sbi (op : BinOp) (x y : X) : (O.sbi op x y).ev F e lim h n = pv (onStr (evX x e) (fun l => onStr (evX y e) (fun m => strV op l m) .bad) .bad) h n := rfl
theorem O_build (z : L) (ps : PL) : (O.build z ps).ev F e lim h n = evBuild z ps e lim h n := rfl
theorem O_part (o k : Nat) (a : Bool) (x : X) : (O.part o k a x).ev F e lim h n = evPart o k a x e lim h n := rfl
end
theorem onStr_s {β : Type} (l : List Nat) (f : List Nat → β) (z : β) : onStr (.s l) f z = f l := rfl
theorem onB_b {β : Type} (t : Bool) (f : Bool → β) (z : β) : onB (.b t) f z = f t := rfl
theorem onT_tu {β : Type} (l : L) (f : L → β) (z : β) : onT (.tu l) f z = f l := rfl
theorem eqb_b (m a b : Bool) : eqbV m (.b a) (.b b) = .b (if m then xor a b else !xor a b) := by cases m <;> cases a <;> cases b <;> rfl
theorem not_b (t : Bool) : (Bool.rec (.b true) (.b false) t : V) = .b !t := by cases t <;> rfl
theorem nthL_0 (v : V) (l : L) : nthL 0 (.cons v l) = v := rfl
theorem nthL_1 (u v : V) (l : L) : nthL 1 (.cons u (.cons v l)) = v := rfl
theorem nthL_2 (u v x : V) (l : L) : nthL 2 (.cons u (.cons v (.cons x l))) = x := rfl
theorem small_len {c : Nat} (s : V) (h : c < 9223372036854775808) : small c s = I c := by
  rcases small_or c s with ⟨h', e⟩ | e
  · rw [e, n_I h]
  · rw [← n_I h]
    unfold small
    rw [fN_eq]
    have : Nat.blt c 9223372036854775808 = true := by rw [Nat.blt_eq]; exact h
    rw [this]
/-- A byte of a string. -/
def byt (l : List Nat) (j : Nat) : Int := ((l.getD j 0 % 256 : Nat) : Int)
theorem nthS_at {l : List Nat} {j : Nat} (h : j < l.length) : nthS l j = .i .u8 (byt l j) := by
  rw [nthS_eq, List.getElem?_eq_getElem h]
  simp [byt, List.getD, List.getElem?_eq_getElem h]
theorem known_nil : L.known .nil = true := rfl
theorem known_cons (v : V) (l : L) : L.known (.cons v l) = (v.known && l.known) := rfl
theorem evRVs_nil (e : Tr) (h : Hp) : evRVs e h [] = .nil := rfl
theorem evRVs_cons (e : Tr) (h : Hp) (r : RV) (l : List RV) : evRVs e h (r :: l) = .cons (evRV r e h) (evRVs e h l) := rfl
theorem evRes_1 (e : Tr) (h : Hp) (r : RV) : evRes e h [r] = evRV r e h := rfl
theorem evRes_2 (e : Tr) (h : Hp) (r r' : RV) (l : List RV) : evRes e h (r :: r' :: l) = .tu (evRVs e h (r :: r' :: l)) := rfl
theorem evRV_tmp (p : Pos) (e : Tr) (h : Hp) : evRV (.tmp p) e h = e.get p := rfl
theorem Got_nor (K : Rs → Prop) (e : Tr) (h : Hp) (n : Nat) : Got K (.nor e h n) ↔ (n < big ∧ K (.nor e h n)) := Iff.rfl
theorem Got_ext (K : Rs → Prop) (i : Nat) (e : Tr) (h : Hp) (n : Nat) : Got K (.ext i e h n) ↔ (n < big ∧ K (.ext i e h n)) := Iff.rfl
theorem Got_ret (K : Rs → Prop) (e : Tr) (h : Hp) (n : Nat) : Got K (.ret e h n) ↔ (n < big ∧ K (.ret e h n)) := Iff.rfl
theorem known_b (t : Bool) : (V.b t).known = true := rfl
theorem known_s (t : List Nat) : (V.s t).known = true := rfl
end Go.Proofs.Ytjhgingmbklhaaa.Ev
