/- max, min, and slices of arrays. -/
import Derived.Test.YtjhgingmbklhaaaEvJ
namespace Go.Proofs.Ytjhgingmbklhaaa.Ev
set_option linter.unusedVariables false
open Go

noncomputable def mm2 (mx : Bool) (x y : V) : V :=
  onNN x y (fun a b => Bool.rec (Bool.rec (.n a) (.n b) (Nat.blt b a)) (Bool.rec (.n a) (.n b) (Nat.blt a b)) mx)
    (onK x (fun k a => onK y (fun _ b => mkI k (if mx then (if b > a then b else a) else (if b < a then b else a))) .bad) .bad)
noncomputable def mmL (mx : Bool) : V → L → V
  | x, .nil => x
  | x, .cons y l => mmL mx (mm2 mx x y) l
theorem mm2_sound (P : Program) (w : World) (g : Sig) (mx : Bool) {x y : V} {a b : Value} (ha : x.rel g a) (hb : y.rel g b) (h : mm2 mx x y ≠ .bad) :
    ∃ u, ((if mx then Builtin.max2 else Builtin.min2) a b).run P w = .ok u w ∧ (mm2 mx x y).rel g u := by
  have slow : onK x (fun k a => onK y (fun _ b => mkI k (if mx then (if b > a then b else a) else (if b < a then b else a))) .bad) .bad ≠ .bad →
      ∃ u, ((if mx then Builtin.max2 else Builtin.min2) a b).run P w = .ok u w ∧ (onK x (fun k a => onK y (fun _ b => mkI k (if mx then (if b > a then b else a) else (if b < a then b else a))) .bad) .bad).rel g u := by
    intro h
    rcases onK_or ha (fun k a => onK y (fun _ b => mkI k (if mx then (if b > a then b else a) else (if b < a then b else a))) .bad) .bad with ⟨k, z, rfl, e⟩ | e
    · rw [e] at h ⊢
      rcases onK_or hb (fun _ b => mkI k (if mx then (if b > z then b else z) else (if b < z then b else z))) .bad with ⟨k', z', rfl, e'⟩ | e'
      · rw [e']
        exact ⟨.int k (if mx then (if z' > z then z' else z) else (if z' < z then z' else z)), by cases mx <;> simp [Builtin.max2, Builtin.min2], mkI_rel g _ _⟩
      · rw [e'] at h; exact absurd rfl h
    · rw [e] at h; exact absurd rfl h
  unfold mm2 onNN at h ⊢
  rcases onN_or x (fun a => onN y (fun b => (Bool.rec (Bool.rec (.n a) (.n b) (Nat.blt b a)) (Bool.rec (.n a) (.n b) (Nat.blt a b)) mx : V)) (onK x (fun k a => onK y (fun _ b => mkI k (if mx then (if b > a then b else a) else (if b < a then b else a))) .bad) .bad))
    (onK x (fun k a => onK y (fun _ b => mkI k (if mx then (if b > a then b else a) else (if b < a then b else a))) .bad) .bad) with ⟨p, hp, e⟩ | e
  · rw [e] at h ⊢
    rcases onN_or y (fun b => (Bool.rec (Bool.rec (.n p) (.n b) (Nat.blt b p)) (Bool.rec (.n p) (.n b) (Nat.blt p b)) mx : V)) (onK x (fun k a => onK y (fun _ b => mkI k (if mx then (if b > a then b else a) else (if b < a then b else a))) .bad) .bad) with ⟨q, hq, e'⟩ | e'
    · rw [e']
      rw [hp, V.rel] at ha
      rw [hq, V.rel] at hb
      cases mx
      · refine ⟨.int .i64 (if (q : Int) < p then q else p), by simp [Builtin.min2, ha.1, hb.1], ?_⟩
        show V.rel g (Bool.rec (.n p) (.n q) (Nat.blt q p)) _
        cases hlt : Nat.blt q p
        · have : ¬ q < p := by rw [← Nat.blt_eq, hlt]; simp
          rw [if_neg (by omega)]; exact rel_n g ha.2 rfl
        · rw [Nat.blt_eq] at hlt; rw [if_pos (by omega)]; exact rel_n g hb.2 rfl
      · refine ⟨.int .i64 (if (q : Int) > p then q else p), by simp [Builtin.max2, ha.1, hb.1], ?_⟩
        show V.rel g (Bool.rec (.n p) (.n q) (Nat.blt p q)) _
        cases hlt : Nat.blt p q
        · have : ¬ p < q := by rw [← Nat.blt_eq, hlt]; simp
          rw [if_neg (by omega)]; exact rel_n g ha.2 rfl
        · rw [Nat.blt_eq] at hlt; rw [if_pos (by omega)]; exact rel_n g hb.2 rfl
    · rw [e'] at h ⊢; exact slow h
  · rw [e] at h ⊢; exact slow h
theorem mm2_bad (mx : Bool) (y : V) : mm2 mx .bad y = .bad := rfl
theorem mmL_bad (mx : Bool) : ∀ l, mmL mx .bad l = .bad
  | .nil => rfl
  | .cons y l => by show mmL mx (mm2 mx .bad y) l = _; rw [mm2_bad, mmL_bad]
theorem mmL_sound (P : Program) (w : World) (g : Sig) (mx : Bool) : ∀ (l : L) (x : V) (a : Value) (us : List Value), x.rel g a → l.rel g us → mmL mx x l ≠ .bad →
    ∃ u, (us.foldlM (if mx then Builtin.max2 else Builtin.min2) a).run P w = .ok u w ∧ (mmL mx x l).rel g u
  | .nil, x, a, us, hx, hl, _ => by rw [L.rel] at hl; subst hl; exact ⟨a, rfl, hx⟩
  | .cons y l, x, a, us, hx, hl, h => by
    rw [L.rel] at hl
    obtain ⟨u, us, rfl, h2, h3⟩ := hl
    have h : mmL mx (mm2 mx x y) l ≠ .bad := h
    have hne : mm2 mx x y ≠ .bad := by intro e; rw [e, mmL_bad] at h; exact h rfl
    obtain ⟨v, r1, r2⟩ := mm2_sound P w g mx hx h2 hne
    obtain ⟨z, r3, r4⟩ := mmL_sound P w g mx l _ v us r2 h3 h
    exact ⟨z, by rw [List.foldlM_cons, Sem.run_bind, r1, Result.andThen_ok, r3], r4⟩

section
variable {P : Program} {o : Oper}
noncomputable def evMm (mx : Bool) (x : X) (xs : XL) (e : Tr) (_ : Nat) (h : Hp) (n : Nat) : Res := pv (mmL mx (evX x e) (evXL xs e)) h n
theorem ok_mm {mx : Bool} {ox : Operand} {os : List Operand} {ats : Array TypeId} {x : X} {xs : XL} (hx : compX ox = some x) (hs : compXL os = some xs) (ho : o.op = .call { callee := .builtin (if mx then .max else .min), args := (ox :: os).toArray, argTypes := ats }) : OpOK P o (evMm mx x xs) :=
  ok_pure (val := fun e => mmL mx (evX x e) (evXL xs e)) fun e g ρ w he hne => by
    obtain ⟨u, h1, h2⟩ := mmL_sound P w g mx (evXL xs e) (evX x e) (ρ ox) (os.map ρ) (he ox x hx) (evXL_rel he os hs) hne
    refine ⟨u, ?_, h2⟩
    cases mx
    · have h1 : (os.map ρ |>.foldlM Builtin.min2 (ρ ox)).run P w = .ok u w := h1
      simp [execOp, ho, resolve, invoke, builtin, Builtin.min_, h1]
    · have h1 : (os.map ρ |>.foldlM Builtin.max2 (ρ ox)).run P w = .ok u w := h1
      simp [execOp, ho, resolve, invoke, builtin, Builtin.max_, h1]

noncomputable def evCap (x : X) (e : Tr) (_ : Nat) (h : Hp) (n : Nat) : Res := pv (onS (evX x e) (fun _ _ _ _ c => Option.rec .bad (fun c => .n c) c) (.n 0) .bad) h n
theorem ok_cap {t : TypeId} {el : TypeId} {ox : Operand} {x : X} (hx : compX ox = some x) (ht : P.underlying t = some (.slice el)) (ho : o.op = .call { callee := .builtin .cap, args := #[ox], argTypes := #[t] }) : OpOK P o (evCap x) :=
  ok_pure (val := fun e => onS (evX x e) (fun _ _ _ _ c => Option.rec .bad (fun c => .n c) c) (.n 0) .bad) fun e g ρ w he hne => by
    have rx := he ox x hx
    rcases onS_or (evX x e) (fun _ _ _ _ (c : Option Nat) => (Option.rec .bad (fun c => .n c) c : V)) (.n 0) .bad with ⟨a, off, e', l, c, h1, h2⟩ | ⟨h1, h2⟩ | h2
    · rw [h2] at hne ⊢
      rw [h1, V.rel] at rx
      obtain ⟨r, base, tot, c', o', hg, hv, hesz, hlc, hcm, ho', _, hc⟩ := rx
      cases c with
      | none => exact absurd rfl hne
      | some c =>
        have hc : c' = c := hc
        subst hc
        have hm : c' < 9223372036854775808 := by unfold maxLen at hcm; omega
        exact ⟨.int .i64 c', by simp [execOp, ho, resolve, invoke, builtin, Builtin.cap_, run_underlying ht, hv, goInt], rel_n g hm rfl⟩
    · rw [h2]
      rw [h1, V.rel] at rx
      exact ⟨.int .i64 0, by simp [execOp, ho, resolve, invoke, builtin, Builtin.cap_, run_underlying ht, rx, goInt], rel_n g (by omega) rfl⟩
    · rw [h2] at hne; exact absurd rfl hne

/-! A slice of an array behind its address. -/
noncomputable def evSla (len esz : Nat) (x : X) (xl xh xm : Option X) (e : Tr) (_ : Nat) (h : Hp) (n : Nat) : Res :=
  onP (evX x e) (fun a off => Option.rec .no (fun b => Bool.rec .no
    (pv (onO xl e 0 fun l => onO xh e len fun h => onO xm e len fun m => Bool.rec .bad (fN (Nat.add off (Nat.mul l esz)) fun o' => fN (Nat.sub h l) fun k => fN (Nat.sub m l) fun c => .sl a o' esz k (some c)) (and (Nat.ble l h) (and (Nat.ble h m) (Nat.ble m len)))) h n)
    (and (Nat.blt 0 b.size) (Nat.ble (Nat.add off (Nat.mul len esz)) b.size))) (h.get a)) .no
theorem ok_sla {t el : TypeId} {len : Nat} {i : TypeInfo} {ox : Operand} {x : X} {ol oh om : Option Operand} {xl xh xm : Option X} (hx : compX ox = some x) (hxl : compXO ol = some xl) (hxh : compXO oh = some xh) (hxm : compXO om = some xm)
    (hoh : om.isSome = true → oh.isSome = true) (ht : P.underlying t = some (.array len el)) (hi : P.info? el = some i) (h0 : 0 < i.size) (ho : o.op = .slice t ox ol oh om) : OpOK P o (evSla len i.size x xl xh xm) := by
  intro e lim h n v h' n' hr ρ g w he m hd hf hn
  have rx := he ox x hx
  unfold evSla at hr
  cases hxv : evX x e <;> rw [hxv] at hr rx <;> dsimp only [onP, V.asP] at hr
  case p a off =>
    rw [V.rel] at rx
    obtain ⟨r, base, tot, hg, hv⟩ := rx
    cases hh : h.get a with
    | none => rw [hh] at hr; cases hr
    | some b =>
      rw [hh] at hr
      dsimp only at hr
      cases hb : and (Nat.blt 0 b.size) (Nat.ble (Nat.add off (Nat.mul len i.size)) b.size)
      · rw [hb] at hr; cases hr
      · rw [hb] at hr
        dsimp only at hr
        have hb : 0 < b.size ∧ off + len * i.size ≤ b.size := by simp only [Bool.and_eq_true, Nat.blt_eq, Nat.ble_eq] at hb; exact hb
        obtain ⟨hne, rfl, rfl, rfl⟩ := pv_ok hr
        obtain ⟨r', base', tot', cur, b1, b2, b3, b4, b5, _⟩ := m.blk a b hh
        rw [hg] at b1
        cases b1
        clear hr
        rcases onO_or he hxl 0 (fun l => onO xh e len fun h => onO xm e len fun m => (Bool.rec .bad (fN (Nat.add off (Nat.mul l i.size)) fun o' => fN (Nat.sub h l) fun k => fN (Nat.sub m l) fun c => .sl a o' i.size k (some c)) (and (Nat.ble l h) (and (Nat.ble h m) (Nat.ble m len))) : V)) with ⟨l, l1, l2, l3⟩ | l3
        · rw [l3] at hne ⊢
          rcases onO_or he hxh len (fun h => onO xm e len fun m => (Bool.rec .bad (fN (Nat.add off (Nat.mul l i.size)) fun o' => fN (Nat.sub h l) fun k => fN (Nat.sub m l) fun c => .sl a o' i.size k (some c)) (and (Nat.ble l h) (and (Nat.ble h m) (Nat.ble m len))) : V)) with ⟨hi', h3, h4, h5⟩ | h5
          · rw [h5] at hne ⊢
            rcases onO_or he hxm len (fun m => (Bool.rec .bad (fN (Nat.add off (Nat.mul l i.size)) fun o' => fN (Nat.sub hi' l) fun k => fN (Nat.sub m l) fun c => .sl a o' i.size k (some c)) (and (Nat.ble l hi') (and (Nat.ble hi' m) (Nat.ble m len))) : V)) with ⟨mx, m1, m2, m3⟩ | m3
            · rw [m3] at hne ⊢
              cases hbb : and (Nat.ble l hi') (and (Nat.ble hi' mx) (Nat.ble mx len))
              · rw [hbb] at hne; exact absurd rfl hne
              · simp only [Bool.and_eq_true, Nat.ble_eq] at hbb
                obtain ⟨c1, c2, c3⟩ := hbb
                have hbd := run_bounds (P := P) w false len len ol oh om l hi' mx l2 h4 m2 hoh c1 c2 c3
                refine ⟨.value (.slice (some (if mx = l then (⟨r, base + off, none⟩ : Addr) else (⟨r, base + off, none⟩ : Addr).add (l * i.size))) (hi' - l) (mx - l)), g, w, ?_, ?_, m, Fr.refl hd⟩
                · simp only [execOp, ho, hv, Instr.sliceAt, Sem.run_bind, run_underlying ht, Result.andThen_ok, Instr.sureAddr, l1, h3, m1, hbd, sizeOf, typeInfo, run_program, hi, Sem.run_pure]
                · show V.rel g (fN (off + l * i.size) fun o' => fN (hi' - l) fun k => fN (mx - l) fun c => .sl a o' i.size k (some c)) _
                  rw [fN_eq, fN_eq, fN_eq]
                  have hlen : len ≤ len * i.size := Nat.le_mul_of_pos_right _ h0
                  have := sl_rel (cap := some (mx - l)) hg len (off := off) (l := l) (k := hi' - l) (c := mx - l) (o' := base + off) h0 (by omega) (by omega) (by omega) (by unfold maxLen; unfold maxSize at b5; omega) (fun _ => rfl) (by omega) rfl
                  rw [show l + (mx - l) = mx by omega] at this
                  rw [Addr.add_lit]
                  by_cases hml : mx = l
                  · rw [if_pos hml] at this ⊢; exact this
                  · rw [if_neg hml] at this ⊢; exact this
            · rw [m3] at hne; exact absurd rfl hne
          · rw [h5] at hne; exact absurd rfl hne
        · rw [l3] at hne; exact absurd rfl hne
  all_goals cases hr
end
end Go.Proofs.Ytjhgingmbklhaaa.Ev
