/- Maps: made, looked up, changed; the model answers so. -/
import Derived.Test.YtjhgingmbklhaaaEvY
import Derived.Test.YtjhgingmbklhaaaEvSt
import Derived.MapKept
namespace Go.Proofs.Ytjhgingmbklhaaa.Ev
set_option linter.unusedVariables false
open Go

noncomputable def onMp {β : Type} (v : V) (f : Pos → β) (y z : β) : β := MV.rec (motive := fun _ => β) z y f v.asM
theorem onMp_or {β : Type} (v : V) (f : Pos → β) (y z : β) : (∃ a, v = .mp a ∧ onMp v f y z = f a) ∨ (v = .nm ∧ onMp v f y z = y) ∨ onMp v f y z = z := by
  cases v <;> first | exact .inl ⟨_, rfl, rfl⟩ | exact .inr (.inl ⟨rfl, rfl⟩) | exact .inr (.inr rfl)

/-! Keys. -/
inductive KK where
  | int | bool | str | sh (s : Sh)
noncomputable def keqB (x y : V) : V := onB x (fun a => onB y (fun b => fB (a == b)) .bad) .bad
noncomputable def keqS (x y : V) : V := onStr x (fun a => onStr y (fun b => fB (eqS a b)) .bad) .bad
noncomputable def keq (k : KK) : V → V → V := KK.rec (motive := fun _ => V → V → V) (binV .eql) keqB keqS (fun s => eqSh s) k
def compKK (P : Program) (kt : TypeId) : Option KK := match P.underlying kt with
  | some (.int _) => some .int
  | some .bool => some .bool
  | some .string => some .str
  | some (.struct _) => (compSh P 20 kt).map .sh
  | some (.array _ _) => (compSh P 20 kt).map .sh
  | _ => none

theorem keqB_b {g : Sig} {x y : V} {a b : Value} (ha : x.rel g a) (hb : y.rel g b) {r : Bool} (h : keqB x y = .b r) : ∃ p q, a = .bool p ∧ b = .bool q ∧ r = (p == q) := by
  unfold keqB at h
  rcases onB_or x (fun a => onB y (fun b => fB (a == b)) .bad) .bad with ⟨p, hp, e⟩ | e
  · rw [e] at h
    rcases onB_or y (fun b => fB (p == b)) .bad with ⟨q, hq, e2⟩ | e2
    · rw [e2, fB_eq] at h
      cases h
      rw [hp, V.rel] at ha
      rw [hq, V.rel] at hb
      exact ⟨p, q, ha, hb, rfl⟩
    · rw [e2] at h; cases h
  · rw [e] at h; cases h
theorem bstr_beq (l m : List Nat) : (bstr l == bstr m) = eqS l m := by
  rw [eqS_eq, Bool.eq_iff_iff, MapKept.bytes_beq, beq_iff_eq]
  constructor
  · intro h
    have := congrArg ByteArray.toList h
    rwa [bstr_toList, bstr_toList] at this
  · intro h
    unfold bstr
    rw [h]
theorem keqS_b {g : Sig} {x y : V} {a b : Value} (ha : x.rel g a) (hb : y.rel g b) {r : Bool} (h : keqS x y = .b r) : ∃ p q, a = .string p ∧ b = .string q ∧ r = (p == q) := by
  unfold keqS at h
  rcases onStr_or x (fun a => onStr y (fun b => fB (eqS a b)) .bad) .bad with ⟨p, hp, e⟩ | e
  · rw [e] at h
    rcases onStr_or y (fun b => fB (eqS p b)) .bad with ⟨q, hq, e2⟩ | e2
    · rw [e2, fB_eq] at h
      cases h
      rw [hp] at ha
      rw [hq] at hb
      exact ⟨_, _, rel_s ha, rel_s hb, (bstr_beq p q).symm⟩
    · rw [e2] at h; cases h
  · rw [e] at h; cases h

section
variable {P : Program} {w : World} {g : Sig}

/-- A key can be looked for. -/
theorem checkKey_sh : ∀ (f : Nat) (t : TypeId) (sh : Sh), compSh P f t = some sh → ∀ (n : Nat) (x : V) (a : Value) (em : Bool), f ≤ n → x.rel g a → eqSh sh x x = .b true → (Instr.checkKey em n t a).run P w = .ok () w
  | 0, t, sh, h, _, _, _, _, _, _, _ => by cases h
  | f + 1, t, sh, h, n, x, a, em, hn, ha, he => by
    obtain ⟨n, rfl⟩ : ∃ d', n = d' + 1 := ⟨n - 1, by omega⟩
    rw [compSh] at h
    split at h
    · rename_i k hk
      cases h
      rw [eqSh] at he
      obtain ⟨k', p, q, rfl, _, _⟩ := binEq_ints ha ha he
      simp only [Instr.checkKey, Sem.run_bind, run_underlying hk, Result.andThen_ok, Sem.run_pure]
    · rename_i hk
      cases h
      rw [eqSh] at he
      obtain ⟨p, q, rfl, _, _⟩ := keqB_b ha ha he
      simp only [Instr.checkKey, Sem.run_bind, run_underlying hk, Result.andThen_ok, Sem.run_pure]
    · rename_i fs hk
      split at h
      · cases h
      · rw [Option.map_eq_some_iff] at h
        obtain ⟨q, hq, rfl⟩ := h
        rw [eqSh] at he
        rcases onA_or x (fun l => onA x (fun m => eqFs q l m) .bad) .bad with ⟨l, hl, e⟩ | e
        · rw [e] at he
          rw [hl] at he ha
          replace he : eqFs q l l = .b true := he
          rw [V.rel] at ha
          obtain ⟨xs, rfl, hxs⟩ := ha
          simp only [Instr.checkKey, Sem.run_bind, run_underlying hk, Result.andThen_ok]
          rw [← Array.forIn_toList]
          generalize fs.toList = L at hq
          clear hk e
          induction L generalizing q with
          | nil => simp
          | cons fl L ih =>
            rw [compFs] at hq
            split at hq
            · rename_i hname
              simp only [List.forIn_cons, Sem.run_bind, hname, ne_eq, not_true_eq_false, if_false, Sem.run_pure, Result.andThen_ok]
              exact ih q he hq
            · rename_i hname
              split at hq
              case h_2 => cases hq
              rename_i i agg sh q' h1 h2 h3 h4
              cases hq
              rw [eqFs] at he
              rcases andV_b he with ⟨e1, e2⟩ | ⟨e1, e2⟩
              · cases e2
              · obtain ⟨n1, _⟩ := eqSh_ne e1
                obtain ⟨b, b1, b2⟩ := partV_run h1 h2 hxs fl.offset w n1
                have p2 := checkKey_sh f fl.type sh h3 n _ b em (by omega) b2 e1
                simp only [List.forIn_cons, Sem.run_bind, hname, ne_eq, not_false_eq_true, if_true, Result.andThen_ok, b1, p2, Sem.run_pure]
                exact ih q' e2 h4
        · rw [e] at he; cases he
    · rename_i len el hk
      split at h
      case h_2 => cases h
      rename_i i agg sh' h1 h2 h3
      cases h
      rw [eqSh] at he
      rcases onA_or x (fun l => onA x (fun m => eqAr (eqSh sh') i.size agg l m len 0) .bad) .bad with ⟨l, hl, e⟩ | e
      · rw [e] at he
        rw [hl] at he ha
        replace he : eqAr (eqSh sh') i.size agg l l len 0 = .b true := he
        rw [V.rel] at ha
        obtain ⟨xs, rfl, hxs⟩ := ha
        simp only [Instr.checkKey, Sem.run_bind, run_underlying hk, Result.andThen_ok]
        simp only [Std.Legacy.Range.forIn_eq_forIn_range', Std.Legacy.Range.size, Nat.sub_zero, Nat.add_one_sub_one, Nat.div_one]
        clear e hk
        generalize 0 = s at he
        induction len generalizing s with
        | zero => simp
        | succ k ih =>
          rw [eqAr] at he
          rw [List.range'_succ]
          rcases andV_b he with ⟨e1, e2⟩ | ⟨e1, e2⟩
          · cases e2
          · obtain ⟨n1, _⟩ := eqSh_ne e1
            obtain ⟨b, b1, b2⟩ := partV_run h1 h2 hxs (s * i.size) w n1
            have p2 := checkKey_sh f el sh' h3 n _ b em (by omega) b2 e1
            simp only [List.forIn_cons, Sem.run_bind, sizeOf, typeInfo, run_program, h1, Result.andThen_ok, b1, p2, Sem.run_pure]
            exact ih (s + 1) e2
      · rw [e] at he; cases he
    · cases h
theorem ckeyI {kt : TypeId} {k k' : IntKind} {p : Int} {em : Bool} (hd : P.underlying kt = some (.int k)) (n : Nat) : (Instr.checkKey em (n + 1) kt (.int k' p)).run P w = .ok () w := by
  simp only [Instr.checkKey, Sem.run_bind, run_underlying hd, Result.andThen_ok, Sem.run_pure]
theorem ckeyB {kt : TypeId} {p : Bool} {em : Bool} (hd : P.underlying kt = some .bool) (n : Nat) : (Instr.checkKey em (n + 1) kt (.bool p)).run P w = .ok () w := by
  simp only [Instr.checkKey, Sem.run_bind, run_underlying hd, Result.andThen_ok, Sem.run_pure]
theorem ckeyS {kt : TypeId} {p : ByteArray} {em : Bool} (hd : P.underlying kt = some .string) (n : Nat) : (Instr.checkKey em (n + 1) kt (.string p)).run P w = .ok () w := by
  simp only [Instr.checkKey, Sem.run_bind, run_underlying hd, Result.andThen_ok, Sem.run_pure]
theorem key_check {kt : TypeId} {k : KK} (hk : compKK P kt = some k) {x : V} {a : Value} (ha : x.rel g a) (he : keq k x x = .b true) (em : Bool) : (Instr.checkKey em 10000 kt a).run P w = .ok () w := by
  unfold compKK at hk
  split at hk
  · rename_i d hd
    cases hk
    obtain ⟨k', p, q, rfl, _, _⟩ := binEq_ints ha ha he
    exact ckeyI hd 9999
  · rename_i hd
    cases hk
    obtain ⟨p, q, rfl, _, _⟩ := keqB_b ha ha he
    exact ckeyB hd 9999
  · rename_i hd
    cases hk
    obtain ⟨p, q, rfl, _, _⟩ := keqS_b ha ha he
    exact ckeyS hd 9999
  · rw [Option.map_eq_some_iff] at hk
    obtain ⟨s, hs, rfl⟩ := hk
    exact checkKey_sh 20 kt s hs 10000 x a em (by omega) ha he
  · rw [Option.map_eq_some_iff] at hk
    obtain ⟨s, hs, rfl⟩ := hk
    exact checkKey_sh 20 kt s hs 10000 x a em (by omega) ha he
  · cases hk

/-! Looking for a key. -/
noncomputable def fndI {β : Type} (k : KK) (x : V) (fo : Nat → L → β) (mi ba : β) (l : L) : Nat → β :=
  L.rec (motive_1 := fun _ => Unit) (motive_2 := fun _ => Nat → β) () (fun _ => ()) (fun _ _ => ()) (fun _ => ()) (fun _ _ => ()) () (fun _ _ _ _ _ => ()) () (fun _ _ => ()) (fun _ _ => ()) (fun _ _ _ _ _ => ()) () (fun _ => ()) (fun _ _ _ => ()) () (fun _ => ()) () (fun _ => ()) (fun _ _ _ _ => ())
    (fun _ => mi) (fun v _ _ ih i => onT v (fun kv => onB (keq k x (nthL 0 kv)) (fun t => Bool.rec (ih (Nat.succ i)) (fo i kv) t) ba) ba) l
theorem fndI_spec {β : Type} (k : KK) (x : V) (fo : Nat → L → β) (mi ba : β) : ∀ (es : List MapEntry) (l : L) (i : Nat), l.rel g (es.map entV) →
    (∃ j e kv, es[j]? = some e ∧ fndI k x fo mi ba l i = fo (i + j) kv ∧ (nthL 0 kv).rel g e.key ∧ (nthL 1 kv).rel g e.val ∧ keq k x (nthL 0 kv) = .b true ∧ ∀ m e', m < j → es[m]? = some e' → ∃ y, y.rel g e'.key ∧ keq k x y = .b false) ∨
    (fndI k x fo mi ba l i = mi ∧ ∀ e' ∈ es, ∃ y, y.rel g e'.key ∧ keq k x y = .b false) ∨ fndI k x fo mi ba l i = ba
  | [], l, i, h => by
    cases l with
    | nil => exact .inr (.inl ⟨rfl, by simp⟩)
    | cons v l => obtain ⟨_, _, e, _⟩ := h; cases e
  | e :: es, l, i, h => by
    cases l with
    | nil => cases h
    | cons v l =>
      rw [List.map_cons, L.rel] at h
      obtain ⟨u, us, heq, hv, hl⟩ := h
      cases heq
      show (∃ j e' kv, _ ∧ onT v (fun kv => onB (keq k x (nthL 0 kv)) (fun t => Bool.rec (fndI k x fo mi ba l (i + 1)) (fo i kv) t) ba) ba = _ ∧ _) ∨ (onT v (fun kv => onB (keq k x (nthL 0 kv)) (fun t => Bool.rec (fndI k x fo mi ba l (i + 1)) (fo i kv) t) ba) ba = mi ∧ _) ∨ onT v (fun kv => onB (keq k x (nthL 0 kv)) (fun t => Bool.rec (fndI k x fo mi ba l (i + 1)) (fo i kv) t) ba) ba = ba
      rcases onT_or v (fun kv => onB (keq k x (nthL 0 kv)) (fun t => (Bool.rec (fndI k x fo mi ba l (i + 1)) (fo i kv) t : β)) ba) ba with ⟨kv, hkv, e1⟩ | e1
      · rw [e1]
        rw [hkv, V.rel] at hv
        obtain ⟨vs, hvs, hr⟩ := hv
        obtain rfl : vs = [e.key, e.val] := by unfold entV at hvs; cases hvs; rfl
        have k0 : (nthL 0 kv).rel g e.key := by rw [nthL_eq]; exact L.rel_get 0 hr
        have k1 : (nthL 1 kv).rel g e.val := by rw [nthL_eq]; exact L.rel_get 1 hr
        rcases onB_or (keq k x (nthL 0 kv)) (fun t => (Bool.rec (fndI k x fo mi ba l (i + 1)) (fo i kv) t : β)) ba with ⟨t, ht, e2⟩ | e2
        · rw [e2]
          cases t with
          | true => exact .inl ⟨0, e, kv, rfl, rfl, k0, k1, ht, fun m _ hm => by omega⟩
          | false =>
            show (∃ j e' kv, _ ∧ fndI k x fo mi ba l (i + 1) = _ ∧ _) ∨ (fndI k x fo mi ba l (i + 1) = mi ∧ _) ∨ fndI k x fo mi ba l (i + 1) = ba
            rcases fndI_spec k x fo mi ba es l (i + 1) hl with ⟨j, e', kv', a1, a2, a3, a4, a5, a6⟩ | ⟨a1, a2⟩ | a1
            · refine .inl ⟨j + 1, e', kv', by simpa using a1, by rw [a2]; congr 1; omega, a3, a4, a5, fun m e'' hm hm' => ?_⟩
              cases m with
              | zero => simp at hm'; subst hm'; exact ⟨_, k0, ht⟩
              | succ m => exact a6 m e'' (by omega) (by simpa using hm')
            · refine .inr (.inl ⟨a1, fun e'' he'' => ?_⟩)
              rcases List.mem_cons.1 he'' with rfl | h'
              · exact ⟨_, k0, ht⟩
              · exact a2 e'' h'
            · exact .inr (.inr a1)
        · rw [e2]; exact .inr (.inr rfl)
      · rw [e1]; exact .inr (.inr rfl)

theorem findNow_at {d : TypeDesc} {a : Value} : ∀ (es : List MapEntry) (i j : Nat) (e : MapEntry), es[j]? = some e → Instr.sameNow d a e.key = some true → (∀ m e', m < j → es[m]? = some e' → Instr.sameNow d a e'.key = some false) → Instr.findNow d a es i = some (some (i + j, e.val))
  | [], _, _, _, h, _, _ => by simp at h
  | e0 :: es, i, 0, e, h, h1, _ => by simp at h; subst h; simp [Instr.findNow, h1]
  | e0 :: es, i, j + 1, e, h, h1, h2 => by
    have := findNow_at es (i + 1) j e (by simpa using h) h1 fun m e' hm hm' => h2 (m + 1) e' (by omega) (by simpa using hm')
    simp only [Instr.findNow, h2 0 e0 (by omega) rfl]
    rw [this]; congr 3; omega
theorem findNow_no {d : TypeDesc} {a : Value} : ∀ (es : List MapEntry) (i : Nat), (∀ e' ∈ es, Instr.sameNow d a e'.key = some false) → Instr.findNow d a es i = some none
  | [], _, _ => rfl
  | e0 :: es, i, h => by
    simp only [Instr.findNow, h e0 (by simp)]
    exact findNow_no es (i + 1) fun e' he' => h e' (by simp [he'])
theorem findAsk_at {kt : TypeId} {a : Value} : ∀ (es : List MapEntry) (i j : Nat) (e : MapEntry), es[j]? = some e → (Op.equal kt a e.key).run P w = .ok true w → (∀ m e', m < j → es[m]? = some e' → (Op.equal kt a e'.key).run P w = .ok false w) → (Instr.findAsking kt a es i).run P w = .ok (some (i + j, e.val)) w
  | [], _, _, _, h, _, _ => by simp at h
  | e0 :: es, i, 0, e, h, h1, _ => by simp at h; subst h; simp [Instr.findAsking, h1]
  | e0 :: es, i, j + 1, e, h, h1, h2 => by
    have := findAsk_at es (i + 1) j e (by simpa using h) h1 fun m e' hm hm' => h2 (m + 1) e' (by omega) (by simpa using hm')
    simp only [Instr.findAsking, Sem.run_bind, h2 0 e0 (by omega) rfl, Result.andThen_ok, Bool.false_eq_true, if_false]
    rw [this]; congr 3; omega
theorem findAsk_no {kt : TypeId} {a : Value} : ∀ (es : List MapEntry) (i : Nat), (∀ e' ∈ es, (Op.equal kt a e'.key).run P w = .ok false w) → (Instr.findAsking kt a es i).run P w = .ok none w
  | [], _, _ => rfl
  | e0 :: es, i, h => by
    simp only [Instr.findAsking, Sem.run_bind, h e0 (by simp), Result.andThen_ok, Bool.false_eq_true, if_false]
    exact findAsk_no es (i + 1) fun e' he' => h e' (by simp [he'])

theorem findNow_sh {kt : TypeId} {d : TypeDesc} (hd : P.underlying kt = some d) (hs : (∃ fs, d = .struct fs) ∨ ∃ n e, d = .array n e) (a : Value) (es : List MapEntry) {r : Option (Nat × Value)} (h : (Instr.findAsking kt a es 0).run P w = .ok r w) : (Instr.findKey kt a es).run P w = .ok r w := by
  cases es with
  | nil =>
    simp [Instr.findAsking] at h
    subst h
    simp [Instr.findKey, run_underlying hd, Instr.findNow]
  | cons e es =>
    have : Instr.findNow d a (e :: es) 0 = none := by
      rcases hs with ⟨fs, rfl⟩ | ⟨n, el, rfl⟩ <;> simp [Instr.findNow, Instr.sameNow]
    simp only [Instr.findKey, Sem.run_bind, run_underlying hd, Result.andThen_ok, this]
    exact h
/-- The model looks for a key as the evaluator does. -/
theorem key_find {kt : TypeId} {k : KK} (hk : compKK P kt = some k) {x : V} {a : Value} (ha : x.rel g a) {β : Type} (fo : Nat → L → β) (mi ba : β) {es : List MapEntry} {l : L} (hl : l.rel g (es.map entV)) :
    (∃ j e kv, es[j]? = some e ∧ fndI k x fo mi ba l 0 = fo j kv ∧ (nthL 0 kv).rel g e.key ∧ (nthL 1 kv).rel g e.val ∧ (Instr.findKey kt a es).run P w = .ok (some (j, e.val)) w) ∨
    (fndI k x fo mi ba l 0 = mi ∧ (Instr.findKey kt a es).run P w = .ok none w) ∨ fndI k x fo mi ba l 0 = ba := by
  have now : ∀ d, P.underlying kt = some d → (∀ y b r, V.rel g y b → keq k x y = .b r → Instr.sameNow d a b = some r) → _ := fun d hd hn => (show
    (∃ j e kv, es[j]? = some e ∧ fndI k x fo mi ba l 0 = fo j kv ∧ (nthL 0 kv).rel g e.key ∧ (nthL 1 kv).rel g e.val ∧ (Instr.findKey kt a es).run P w = .ok (some (j, e.val)) w) ∨
    (fndI k x fo mi ba l 0 = mi ∧ (Instr.findKey kt a es).run P w = .ok none w) ∨ fndI k x fo mi ba l 0 = ba from by
    rcases fndI_spec k x fo mi ba es l 0 hl with ⟨j, e, kv, a1, a2, a3, a4, a5, a6⟩ | ⟨a1, a2⟩ | a1
    · refine .inl ⟨j, e, kv, a1, by rw [a2, Nat.zero_add], a3, a4, MapKept.run_findKey hd ?_⟩
      have := findNow_at es 0 j e a1 (hn _ _ _ a3 a5) fun m e' hm hm' => let ⟨y, y1, y2⟩ := a6 m e' hm hm'; hn _ _ _ y1 y2
      rw [this, Nat.zero_add]
    · exact .inr (.inl ⟨a1, MapKept.run_findKey hd (findNow_no es 0 fun e' he' => let ⟨y, y1, y2⟩ := a2 e' he'; hn _ _ _ y1 y2)⟩)
    · exact .inr (.inr a1))
  have ask : ∀ d, P.underlying kt = some d → ((∃ fs, d = .struct fs) ∨ ∃ n e, d = .array n e) → (∀ y b r, V.rel g y b → keq k x y = .b r → (Op.equal kt a b).run P w = .ok r w) → _ := fun d hd hs hn => (show
    (∃ j e kv, es[j]? = some e ∧ fndI k x fo mi ba l 0 = fo j kv ∧ (nthL 0 kv).rel g e.key ∧ (nthL 1 kv).rel g e.val ∧ (Instr.findKey kt a es).run P w = .ok (some (j, e.val)) w) ∨
    (fndI k x fo mi ba l 0 = mi ∧ (Instr.findKey kt a es).run P w = .ok none w) ∨ fndI k x fo mi ba l 0 = ba from by
    rcases fndI_spec k x fo mi ba es l 0 hl with ⟨j, e, kv, a1, a2, a3, a4, a5, a6⟩ | ⟨a1, a2⟩ | a1
    · refine .inl ⟨j, e, kv, a1, by rw [a2, Nat.zero_add], a3, a4, findNow_sh hd hs a es ?_⟩
      have := findAsk_at es 0 j e a1 (hn _ _ _ a3 a5) fun m e' hm hm' => let ⟨y, y1, y2⟩ := a6 m e' hm hm'; hn _ _ _ y1 y2
      rw [this, Nat.zero_add]
    · exact .inr (.inl ⟨a1, findNow_sh hd hs a es (findAsk_no es 0 fun e' he' => let ⟨y, y1, y2⟩ := a2 e' he'; hn _ _ _ y1 y2)⟩)
    · exact .inr (.inr a1))
  unfold compKK at hk
  split at hk
  · rename_i d hd
    cases hk
    refine now _ hd fun y b r hy he => ?_
    obtain ⟨k', p, q, rfl, rfl, rfl⟩ := binEq_ints ha hy he
    simp [Instr.sameNow]
  · rename_i hd
    cases hk
    refine now _ hd fun y b r hy he => ?_
    obtain ⟨p, q, rfl, rfl, rfl⟩ := keqB_b ha hy he
    simp [Instr.sameNow]
  · rename_i hd
    cases hk
    refine now _ hd fun y b r hy he => ?_
    obtain ⟨p, q, rfl, rfl, rfl⟩ := keqS_b ha hy he
    simp [Instr.sameNow]
  · rename_i fs hd
    rw [Option.map_eq_some_iff] at hk
    obtain ⟨s, hs, rfl⟩ := hk
    exact ask _ hd (.inl ⟨_, rfl⟩) fun y b r hy he => compSh_sound 20 kt s hs 10000 (by omega) x y a b r ha hy he
  · rename_i n el hd
    rw [Option.map_eq_some_iff] at hk
    obtain ⟨s, hs, rfl⟩ := hk
    exact ask _ hd (.inr ⟨_, _, rfl⟩) fun y b r hy he => compSh_sound 20 kt s hs 10000 (by omega) x y a b r ha hy he
  · cases hk

/-! The same bits. -/
noncomputable def sameC (x y : V) : V := onStr x (fun a => onStr y (fun b => fB (eqS a b)) .bad) (onB x (fun a => onB y (fun b => fB (a == b)) .bad) (binV .eql x y))
theorem sameC_sound {x y : V} {a b : Value} (ha : x.rel g a) (hb : y.rel g b) (h : sameC x y = .b true) : a = b ∧ ∀ n, Instr.sameBits n a b = true := by
  unfold sameC at h
  rcases onStr_or x (fun a => onStr y (fun b => fB (eqS a b)) .bad) (onB x (fun a => onB y (fun b => fB (a == b)) .bad) (binV .eql x y)) with ⟨p, hp, e⟩ | e
  · have hx : keqS x y = .b true := by unfold keqS; rw [hp] at h ⊢; exact h
    obtain ⟨u, v, rfl, rfl, hr⟩ := keqS_b ha hb hx
    have : u = v := (MapKept.bytes_beq u v).1 hr.symm
    subst this
    exact ⟨rfl, fun n => by cases n <;> simp [Instr.sameBits, MapKept.bytes_beq]⟩
  · rw [e] at h
    rcases onB_or x (fun a => onB y (fun b => fB (a == b)) .bad) (binV .eql x y) with ⟨p, hp, e⟩ | e
    · have hx : keqB x y = .b true := by unfold keqB; rw [hp] at h ⊢; exact h
      obtain ⟨u, v, rfl, rfl, hr⟩ := keqB_b ha hb hx
      have : u = v := by simpa using hr.symm
      subst this
      exact ⟨rfl, fun n => by cases n <;> simp [Instr.sameBits]⟩
    · rw [e] at h
      obtain ⟨k', p, q, rfl, rfl, hr⟩ := binEq_ints ha hb h
      have : p = q := by simpa using hr.symm
      subst this
      exact ⟨rfl, fun n => by cases n <;> simp [Instr.sameBits]⟩
noncomputable def sameL (l : L) : L → V :=
  L.rec (motive_1 := fun _ => Unit) (motive_2 := fun _ => L → V) () (fun _ => ()) (fun _ _ => ()) (fun _ => ()) (fun _ _ => ()) () (fun _ _ _ _ _ => ()) () (fun _ _ => ()) (fun _ _ => ()) (fun _ _ _ _ _ => ()) () (fun _ => ()) (fun _ _ _ => ()) () (fun _ => ()) () (fun _ => ()) (fun _ _ _ _ => ())
    (fun m => L.rec (motive_1 := fun _ => Unit) (motive_2 := fun _ => V) () (fun _ => ()) (fun _ _ => ()) (fun _ => ()) (fun _ _ => ()) () (fun _ _ _ _ _ => ()) () (fun _ _ => ()) (fun _ _ => ()) (fun _ _ _ _ _ => ()) () (fun _ => ()) (fun _ _ _ => ()) () (fun _ => ()) () (fun _ => ()) (fun _ _ _ _ => ()) (.b true) (fun _ _ _ _ => .bad) m)
    (fun v _ _ ih m => L.rec (motive_1 := fun _ => Unit) (motive_2 := fun _ => V) () (fun _ => ()) (fun _ _ => ()) (fun _ => ()) (fun _ _ => ()) () (fun _ _ _ _ _ => ()) () (fun _ _ => ()) (fun _ _ => ()) (fun _ _ _ _ _ => ()) () (fun _ => ()) (fun _ _ _ => ()) () (fun _ => ()) () (fun _ => ()) (fun _ _ _ _ => ()) .bad (fun u r _ _ => andV (sameC v u) (ih r)) m) l
theorem sameL_sound : ∀ (l m : L) (us vs : List Value), l.rel g us → m.rel g vs → sameL l m = .b true → us = vs ∧ ∀ n, (us.zip vs).all (fun (x, y) => Instr.sameBits n x y) = true
  | .nil, .nil, us, vs, h1, h2, _ => by rw [L.rel] at h1 h2; subst h1 h2; simp
  | .nil, .cons v m, us, vs, h1, h2, h => by cases h
  | .cons v l, .nil, us, vs, h1, h2, h => by cases h
  | .cons v l, .cons u m, us, vs, h1, h2, h => by
    have h : andV (sameC v u) (sameL l m) = .b true := h
    rw [L.rel] at h1 h2
    obtain ⟨a, as, rfl, a1, a2⟩ := h1
    obtain ⟨b, bs, rfl, b1, b2⟩ := h2
    rcases andV_b h with ⟨_, e⟩ | ⟨e1, e2⟩
    · cases e
    · obtain ⟨rfl, c2⟩ := sameC_sound a1 b1 e1
      obtain ⟨rfl, d2⟩ := sameL_sound l m as bs a2 b2 e2
      exact ⟨rfl, fun n => by simp only [List.zip_cons_cons, List.all_cons, Bool.and_eq_true]; exact ⟨c2 n, d2 n⟩⟩
noncomputable def sameK (x y : V) : V := onA x (fun l => onA y (fun m => sameL l m) .bad) (sameC x y)
theorem sameK_sound {x y : V} {a b : Value} (ha : x.rel g a) (hb : y.rel g b) (h : sameK x y = .b true) : Instr.sameBits 10000 a b = true := by
  unfold sameK at h
  rcases onA_or x (fun l => onA y (fun m => sameL l m) .bad) (sameC x y) with ⟨l, hl, e⟩ | e
  · rw [e] at h
    rcases onA_or y (fun m => sameL l m) .bad with ⟨m, hm, e2⟩ | e2
    · rw [e2] at h
      rw [hl, V.rel] at ha
      rw [hm, V.rel] at hb
      obtain ⟨us, rfl, h1⟩ := ha
      obtain ⟨vs, rfl, h2⟩ := hb
      obtain ⟨rfl, h3⟩ := sameL_sound l m us vs h1 h2 h
      show (us.length == us.length && (us.zip us).all fun (x, y) => Instr.sameBits 9999 x y) = true
      rw [h3 9999]; simp
    · rw [e2] at h; cases h
  · rw [e] at h
    exact (sameC_sound ha hb h).2 _

/-- A place of a list is set. -/
noncomputable def setAt (v : V) (i : Nat) : L → L := Nat.rec (motive := fun _ => L → L)
  (fun l => L.rec (motive_1 := fun _ => Unit) (motive_2 := fun _ => L) () (fun _ => ()) (fun _ _ => ()) (fun _ => ()) (fun _ _ => ()) () (fun _ _ _ _ _ => ()) () (fun _ _ => ()) (fun _ _ => ()) (fun _ _ _ _ _ => ()) () (fun _ => ()) (fun _ _ _ => ()) () (fun _ => ()) () (fun _ => ()) (fun _ _ _ _ => ()) .nil (fun _ r _ _ => .cons v r) l)
  (fun _ ih l => L.rec (motive_1 := fun _ => Unit) (motive_2 := fun _ => L) () (fun _ => ()) (fun _ _ => ()) (fun _ => ()) (fun _ _ => ()) () (fun _ _ _ _ _ => ()) () (fun _ _ => ()) (fun _ _ => ()) (fun _ _ _ _ _ => ()) () (fun _ => ()) (fun _ _ _ => ()) () (fun _ => ()) () (fun _ => ()) (fun _ _ _ _ => ()) .nil (fun u r _ _ => .cons u (ih r)) l) i
theorem setAt_rel {v : V} {f : MapEntry → MapEntry} : ∀ (i : Nat) (l : L) (es : List MapEntry) (e : MapEntry), l.rel g (es.map entV) → es[i]? = some e → v.rel g (entV (f e)) → (setAt v i l).rel g ((es.modify i f).map entV)
  | _, l, [], e, _, h, _ => by simp at h
  | 0, .nil, e0 :: es, e, h, _, _ => by cases h
  | 0, .cons u l, e0 :: es, e, h, he, hv => by
    simp at he; subst he
    rw [List.map_cons, L.rel] at h
    obtain ⟨_, _, hh, _, h2⟩ := h
    cases hh
    exact ⟨entV (f e0), _, rfl, hv, h2⟩
  | i + 1, .nil, e0 :: es, e, h, _, _ => by cases h
  | i + 1, .cons u l, e0 :: es, e, h, he, hv => by
    rw [List.map_cons, L.rel] at h
    obtain ⟨_, _, hh, h1, h2⟩ := h
    cases hh
    exact ⟨entV e0, _, rfl, h1, setAt_rel i l es e h2 (by simpa using he) hv⟩
noncomputable def appL (l m : L) : L := L.rec (motive_1 := fun _ => Unit) (motive_2 := fun _ => L) () (fun _ => ()) (fun _ _ => ()) (fun _ => ()) (fun _ _ => ()) () (fun _ _ _ _ _ => ()) () (fun _ _ => ()) (fun _ _ => ()) (fun _ _ _ _ _ => ()) () (fun _ => ()) (fun _ _ _ => ()) () (fun _ => ()) () (fun _ => ()) (fun _ _ _ _ => ()) m (fun v _ _ ih => .cons v ih) l
theorem appL_rel : ∀ {l m : L} {us vs : List Value}, l.rel g us → m.rel g vs → (appL l m).rel g (us ++ vs)
  | .nil, m, us, vs, h1, h2 => by rw [L.rel] at h1; subst h1; exact h2
  | .cons v l, m, us, vs, h1, h2 => by
    rw [L.rel] at h1
    obtain ⟨u, us', rfl, h3, h4⟩ := h1
    exact ⟨u, _, rfl, h3, appL_rel h4 h2⟩
noncomputable def lenL (l : L) : Nat := L.rec (motive_1 := fun _ => Unit) (motive_2 := fun _ => Nat) () (fun _ => ()) (fun _ _ => ()) (fun _ => ()) (fun _ _ => ()) () (fun _ _ _ _ _ => ()) () (fun _ _ => ()) (fun _ _ => ()) (fun _ _ _ _ _ => ()) () (fun _ => ()) (fun _ _ _ => ()) () (fun _ => ()) () (fun _ => ()) (fun _ _ _ _ => ()) 0 (fun _ _ _ ih => Nat.succ ih) l
theorem lenL_eq : ∀ l : L, lenL l = l.length
  | .nil => rfl
  | .cons v l => by show Nat.succ (lenL l) = _; rw [lenL_eq l]; rfl

/-! The operations. -/
variable {o : Oper}
noncomputable def mark {β : Type} (m : Tb) (no yes : β) : β := Tb.rec (motive := fun _ => β) no (fun _ v _ _ _ => onMp v (fun _ => no) yes no) m
theorem mark_or {β : Type} (m : Tb) (no yes : β) : (m.get .h = .nm ∧ mark m no yes = yes) ∨ mark m no yes = no := by
  cases m with
  | lf => exact .inr rfl
  | nd l v r => cases v <;> first | exact .inl ⟨rfl, rfl⟩ | exact .inr rfl

noncomputable def evMkm (_ : Tr) (_ : Nat) (h : Hp) (n : Nat) : Res := Bool.rec .no (posK 63 n fun p => fN (Nat.succ n) fun n' => h.putK (some ⟨0, 0, 1, .nil, mpM⟩) p fun h' => .ok (.mp p) h' n') (Nat.ble 1 n)
theorem ok_mkm {t : TypeId} (ho : o.op = .makeMap t none) : OpOK P o evMkm := by
  intro e lim h n v h' n' hr ρ g w he m hd hf hn
  unfold evMkm at hr
  cases hb : Nat.ble 1 n
  · rw [hb] at hr; cases hr
  · rw [hb] at hr
    rw [Nat.ble_eq] at hb
    have hr : posK 63 n (fun p => fN (Nat.succ n) fun n' => h.putK (some ⟨0, 0, 1, .nil, mpM⟩) p fun h' => Res.ok (.mp p) h' n') = .ok v h' n' := hr
    rw [posK_eq, fN_eq, Hp.putK_eq] at hr
    cases hr
    have hpn : (posF 63 n).num = n := num_posF 63 n hb (by omega)
    have h0 : g (posF 63 n) = none := hf _ (by omega) (by omega)
    refine ⟨.value (.map (some w.heap.size)), gput g (posF 63 n) (w.heap.size, 1, 0), w.alloc (.map #[] 0), ?_, ⟨w.heap.size, by simp [gput], rfl⟩, ?_, ?_⟩
    · simp only [execOp, ho, Option.map_none, Instr.makeMap, Sem.run_bind, Sem.run_pure, Result.andThen_ok, run_newObj]; rfl
    · rw [Hp.put_get]; exact mem_mkMap m h0
    · rw [Hp.put_get]; exact Fr.ofAlloc hd hpn _ _ _ _

noncomputable def outLk (ok : Bool) (v : V) (t : Bool) : V := Bool.rec v (.tu (.cons v (.cons (.b t) .nil))) ok
noncomputable def evLkp (k : KK) (z : V) (ok : Bool) (x i : X) (e : Tr) (_ : Nat) (h : Hp) (n : Nat) : Res :=
  onB (keq k (evX i e) (evX i e)) (fun t => Bool.rec .no
    (onMp (evX x e) (fun a => Option.rec .no (fun b => mark b.m .no (fndI k (evX i e) (fun _ kv => Res.ok (outLk ok (nthL 1 kv) true) h n) (.ok (outLk ok z false) h n) .no b.z 0)) (h.get a)) (.ok (outLk ok z false) h n) .no) t) .no
def lkRes (ok : Bool) (zv : Value) : Option (Nat × Value) → Value
  | some (_, v) => if ok then .tuple #[v, .bool true] else v
  | none => if ok then .tuple #[zv, .bool false] else zv
theorem run_lookup {t key el : TypeId} (ht : P.underlying t = some (.map key el)) {zv : Value} (hz : (zeroValue el).run P w = .ok zv w) {k : KK} (hk : compKK P key = some k) {x : V} {a : Value} (ha : x.rel g a) (hs : keq k x x = .b true) (ok : Bool) {xv : Value} {es : List MapEntry}
    (hx : (xv = .map none ∧ es = []) ∨ ∃ r clock, xv = .map (some r) ∧ w.heap[r]? = some (.map ⟨es⟩ clock)) {r : Option (Nat × Value)} (hf : (Instr.findKey key a es).run P w = .ok r w) :
    (Instr.lookup t xv a ok).run P w = .ok (lkRes ok zv r) w := by
  rcases hx with ⟨rfl, rfl⟩ | ⟨rr, clock, rfl, hh⟩
  · have hc := key_check (P := P) (w := w) hk ha hs true
    simp only [Instr.lookup, Sem.run_bind, run_underlying ht, Result.andThen_ok, Sem.run_pure, Array.isEmpty_empty, hc]
    rw [hf]
    cases r with
    | none => simp only [Result.andThen_ok, Sem.run_bind, hz, Sem.run_pure]; cases ok <;> rfl
    | some p => simp only [Result.andThen_ok, Sem.run_pure]; cases ok <;> rfl
  · have hc := key_check (P := P) (w := w) hk ha hs (⟨es⟩ : Array MapEntry).isEmpty
    simp only [Instr.lookup, Sem.run_bind, run_underlying ht, Result.andThen_ok, Sem.run_pure, MapKept.run_getObj_map hh, hc]
    rw [hf]
    cases r with
    | none => simp only [Result.andThen_ok, Sem.run_bind, hz, Sem.run_pure]; cases ok <;> rfl
    | some p => simp only [Result.andThen_ok, Sem.run_pure]; cases ok <;> rfl
theorem outLk_rel {ok t : Bool} {v : V} {a : Value} (h : v.rel g a) : (outLk ok v t).rel g (if ok then .tuple #[a, .bool t] else a) := by
  cases ok
  · exact h
  · exact ⟨[a, .bool t], rfl, a, _, rfl, h, .bool t, _, rfl, rfl, rfl⟩
theorem ok_lkp {t key el : TypeId} {ok : Bool} {k : KK} {z : V} {ox oi : Operand} {x i : X} (hx : compX ox = some x) (hi : compX oi = some i) (ht : P.underlying t = some (.map key el)) (hk : compKK P key = some k)
    {inf : TypeInfo} (hinf : P.info? el = some inf) {zv : Value} (hz : inf.zero = some zv) (hzl : ofVal zv = some z) (ho : o.op = .lookup t ox oi ok) : OpOK P o (evLkp k z ok x i) := by
  intro e lim h n v h' n' hr ρ g w he m hd hf hn
  have rx := he ox x hx
  have ri := he oi i hi
  have hzr : (zeroValue el).run P w = .ok zv w := by simp only [zeroValue, typeInfo, Sem.run_bind, run_program, hinf, hz, Sem.run_pure, Result.andThen_ok]
  have zr : z.rel g zv := ofVal_rel g _ hzl
  unfold evLkp at hr
  rcases onB_or (keq k (evX i e) (evX i e)) (fun t => (Bool.rec .no
    (onMp (evX x e) (fun a => Option.rec .no (fun b => mark b.m .no (fndI k (evX i e) (fun _ kv => Res.ok (outLk ok (nthL 1 kv) true) h n) (.ok (outLk ok z false) h n) .no b.z 0)) (h.get a)) (.ok (outLk ok z false) h n) .no) t : Res)) .no with ⟨s, hs, e1⟩ | e1
  · rw [e1] at hr
    cases s
    · cases hr
    · have hr : onMp (evX x e) (fun a => (Option.rec .no (fun b => mark b.m .no (fndI k (evX i e) (fun _ kv => Res.ok (outLk ok (nthL 1 kv) true) h n) (.ok (outLk ok z false) h n) .no b.z 0)) (h.get a) : Res)) (.ok (outLk ok z false) h n) .no = .ok v h' n' := hr
      rcases onMp_or (evX x e) (fun a => (Option.rec .no (fun b => mark b.m .no (fndI k (evX i e) (fun _ kv => Res.ok (outLk ok (nthL 1 kv) true) h n) (.ok (outLk ok z false) h n) .no b.z 0)) (h.get a) : Res)) (.ok (outLk ok z false) h n) .no with ⟨a, h1, h2⟩ | ⟨h1, h2⟩ | h2
      · rw [h2] at hr
        rw [h1, V.rel] at rx
        obtain ⟨r, hg, hv⟩ := rx
        cases hh : h.get a with
        | none => rw [hh] at hr; cases hr
        | some b =>
          rw [hh] at hr
          have hr : mark b.m .no (fndI k (evX i e) (fun _ kv => Res.ok (outLk ok (nthL 1 kv) true) h n) (.ok (outLk ok z false) h n) .no b.z 0) = .ok v h' n' := hr
          rcases mark_or b.m .no (fndI k (evX i e) (fun _ kv => Res.ok (outLk ok (nthL 1 kv) true) h n) (.ok (outLk ok z false) h n) .no b.z 0) with ⟨hm, e2⟩ | e2
          · rw [e2] at hr
            obtain ⟨_, es, clock, hb, hl⟩ := mem_map m hh hg hm
            rcases key_find (P := P) (w := w) hk ri (fun _ kv => Res.ok (outLk ok (nthL 1 kv) true) h n) (.ok (outLk ok z false) h n) .no hl with ⟨j, en, kv, a1, a2, a3, a4, a5⟩ | ⟨a1, a2⟩ | a1
            · rw [a2] at hr
              cases hr
              have := run_lookup (P := P) ht hzr hk ri hs ok (.inr ⟨r, clock, hv, hb⟩) a5
              exact ⟨.value _, g, w, by simp only [execOp, ho, Sem.run_bind, this, Result.andThen_ok, Sem.run_pure]; rfl, outLk_rel a4, m, Fr.refl hd⟩
            · rw [a1] at hr
              cases hr
              have := run_lookup (P := P) ht hzr hk ri hs ok (.inr ⟨r, clock, hv, hb⟩) a2
              exact ⟨.value _, g, w, by simp only [execOp, ho, Sem.run_bind, this, Result.andThen_ok, Sem.run_pure]; rfl, outLk_rel zr, m, Fr.refl hd⟩
            · rw [a1] at hr; cases hr
          · rw [e2] at hr; cases hr
      · rw [h2] at hr
        cases hr
        rw [h1, V.rel] at rx
        have hfk : (Instr.findKey key (ρ oi) []).run P w = .ok none w := by
          rcases key_find (P := P) (w := w) hk ri (fun _ _ => 0) 1 2 (es := []) (l := .nil) rfl with ⟨j, en, kv, a1, _⟩ | ⟨_, a2⟩ | a1
          · simp at a1
          · exact a2
          · cases a1
        have := run_lookup (P := P) ht hzr hk ri hs ok (.inl ⟨rx, rfl⟩) hfk
        exact ⟨.value _, g, w, by simp only [execOp, ho, Sem.run_bind, this, Result.andThen_ok, Sem.run_pure]; rfl, outLk_rel zr, m, Fr.refl hd⟩
      · rw [h2] at hr; cases hr
  · rw [e1] at hr; cases hr

noncomputable def putM (h : Hp) (n : Nat) (a : Pos) (z : L) : Res := h.putK (some ⟨0, 0, 1, z, mpM⟩) a fun h' => .ok (.tu .nil) h' n
noncomputable def evMup (k : KK) (x i y : X) (e : Tr) (lim : Nat) (h : Hp) (n : Nat) : Res :=
  onB (keq k (evX i e) (evX i e)) (fun t => Bool.rec .no
    (onMp (evX x e) (fun a => Option.rec .no (fun b => mark b.m .no (Bool.rec .no (fndI k (evX i e) (fun j kv => onB (sameK (nthL 0 kv) (evX i e)) (fun t => Bool.rec .no (putM h n a (setAt (.tu (.cons (evX i e) (.cons (evX y e) .nil))) j b.z)) t) .no)
      (putM h n a (appL b.z (.cons (.tu (.cons (evX i e) (.cons (evX y e) .nil))) .nil))) .no b.z 0) (Nat.ble lim a.num))) (h.get a)) .no .no) t) .no
theorem ok_mup {t key el : TypeId} {k : KK} {ox oi oy : Operand} {x i y : X} (hx : compX ox = some x) (hi : compX oi = some i) (hy : compX oy = some y) (ht : P.underlying t = some (.map key el)) (hk : compKK P key = some k)
    (ho : o.op = .mapUpdate t ox oi oy) : OpOK P o (evMup k x i y) := by
  intro e lim h n v h' n' hr ρ g w he m hd hf hn
  have rx := he ox x hx
  have ri := he oi i hi
  have ry := he oy y hy
  unfold evMup at hr
  rcases onB_or (keq k (evX i e) (evX i e)) (fun t => (Bool.rec .no
    (onMp (evX x e) (fun a => Option.rec .no (fun b => mark b.m .no (Bool.rec .no (fndI k (evX i e) (fun j kv => onB (sameK (nthL 0 kv) (evX i e)) (fun t => Bool.rec .no (putM h n a (setAt (.tu (.cons (evX i e) (.cons (evX y e) .nil))) j b.z)) t) .no)
      (putM h n a (appL b.z (.cons (.tu (.cons (evX i e) (.cons (evX y e) .nil))) .nil))) .no b.z 0) (Nat.ble lim a.num))) (h.get a)) .no .no) t : Res)) .no with ⟨s, hs, e1⟩ | e1
  · rw [e1] at hr
    cases s
    · cases hr
    · have hr : onMp (evX x e) (fun a => (Option.rec .no (fun b => mark b.m .no (Bool.rec .no (fndI k (evX i e) (fun j kv => onB (sameK (nthL 0 kv) (evX i e)) (fun t => Bool.rec .no (putM h n a (setAt (.tu (.cons (evX i e) (.cons (evX y e) .nil))) j b.z)) t) .no)
        (putM h n a (appL b.z (.cons (.tu (.cons (evX i e) (.cons (evX y e) .nil))) .nil))) .no b.z 0) (Nat.ble lim a.num))) (h.get a) : Res)) .no .no = .ok v h' n' := hr
      rcases onMp_or (evX x e) (fun a => (Option.rec .no (fun b => mark b.m .no (Bool.rec .no (fndI k (evX i e) (fun j kv => onB (sameK (nthL 0 kv) (evX i e)) (fun t => Bool.rec .no (putM h n a (setAt (.tu (.cons (evX i e) (.cons (evX y e) .nil))) j b.z)) t) .no)
        (putM h n a (appL b.z (.cons (.tu (.cons (evX i e) (.cons (evX y e) .nil))) .nil))) .no b.z 0) (Nat.ble lim a.num))) (h.get a) : Res)) .no .no with ⟨a, h1, h2⟩ | ⟨h1, h2⟩ | h2
      · rw [h2] at hr
        rw [h1, V.rel] at rx
        obtain ⟨r, hg, hv⟩ := rx
        cases hh : h.get a with
        | none => rw [hh] at hr; cases hr
        | some b =>
          rw [hh] at hr
          dsimp only at hr
          rcases mark_or b.m .no (Bool.rec .no (fndI k (evX i e) (fun j kv => onB (sameK (nthL 0 kv) (evX i e)) (fun t => Bool.rec .no (putM h n a (setAt (.tu (.cons (evX i e) (.cons (evX y e) .nil))) j b.z)) t) .no)
            (putM h n a (appL b.z (.cons (.tu (.cons (evX i e) (.cons (evX y e) .nil))) .nil))) .no b.z 0) (Nat.ble lim a.num) : Res) with ⟨hm, e2⟩ | e2
          · rw [e2] at hr
            cases hlim : Nat.ble lim a.num
            · rw [hlim] at hr; cases hr
            · rw [hlim] at hr
              rw [Nat.ble_eq] at hlim
              dsimp only at hr
              obtain ⟨_, es, clock, hb, hl⟩ := mem_map m hh hg hm
              have hc := key_check (P := P) (w := w) hk ri hs false
              have hent : V.rel g (.tu (.cons (evX i e) (.cons (evX y e) .nil))) (.tuple ⟨[ρ oi, ρ oy]⟩) := ⟨_, rfl, _, _, rfl, ri, _, _, rfl, ry, rfl⟩
              rcases key_find (P := P) (w := w) hk ri (fun j kv => onB (sameK (nthL 0 kv) (evX i e)) (fun t => (Bool.rec .no (putM h n a (setAt (.tu (.cons (evX i e) (.cons (evX y e) .nil))) j b.z)) t : Res)) .no) (putM h n a (appL b.z (.cons (.tu (.cons (evX i e) (.cons (evX y e) .nil))) .nil))) .no hl with ⟨j, en, kv, a1, a2, a3, a4, a5⟩ | ⟨a1, a2⟩ | a1
              · rw [a2] at hr
                rcases onB_or (sameK (nthL 0 kv) (evX i e)) (fun t => (Bool.rec .no (putM h n a (setAt (.tu (.cons (evX i e) (.cons (evX y e) .nil))) j b.z)) t : Res)) .no with ⟨t', hk', e3⟩ | e3
                · rw [e3] at hr
                  cases t'
                  · cases hr
                  · have hr : putM h n a (setAt (.tu (.cons (evX i e) (.cons (evX y e) .nil))) j b.z) = .ok v h' n' := hr
                    unfold putM at hr
                    rw [Hp.putK_eq] at hr
                    cases hr
                    have hsb := sameK_sound a3 ri hk'
                    have hz : (setAt (.tu (.cons (evX i e) (.cons (evX y e) .nil))) j b.z).rel g ((es.modify j fun e => { e with key := ρ oi, val := ρ oy }).toList.map entV) := by
                      rw [Array.toList_modify]
                      exact setAt_rel j b.z es.toList en hl a1 hent
                    refine ⟨.skip, g, _, ?_, ⟨[], rfl, rfl⟩, by rw [Hp.put_get]; exact mem_setMap m hh hg hm (clock := clock) hz, by rw [Hp.put_get]; exact fr_setMap hd hh hlim hg _ _⟩
                    · have hget : (es[j]?).map (·.key) = some en.key := by rw [← Array.getElem?_toList, a1]; rfl
                      simp only [execOp, ho, Instr.mapUpdate, Sem.run_bind, run_underlying ht, Result.andThen_ok, hv, MapKept.run_getObj_map hb, hc, a5, hget, Option.getD_some, Instr.keyThatStays, hsb, if_true, Sem.run_pure, MapKept.run_setObj_map _ hb]
                · rw [e3] at hr; cases hr
              · rw [a1] at hr
                unfold putM at hr
                rw [Hp.putK_eq] at hr
                cases hr
                have hz : (appL b.z (.cons (.tu (.cons (evX i e) (.cons (evX y e) .nil))) .nil)).rel g ((es.push { key := ρ oi, val := ρ oy, born := clock }).toList.map entV) := by
                  rw [Array.toList_push, List.map_append]
                  exact appL_rel hl ⟨_, _, rfl, hent, rfl⟩
                refine ⟨.skip, g, _, ?_, ⟨[], rfl, rfl⟩, by rw [Hp.put_get]; exact mem_setMap m hh hg hm (clock := clock + 1) hz, by rw [Hp.put_get]; exact fr_setMap hd hh hlim hg _ _⟩
                · simp only [execOp, ho, Instr.mapUpdate, Sem.run_bind, run_underlying ht, Result.andThen_ok, hv, MapKept.run_getObj_map hb, hc, a2, Sem.run_pure, MapKept.run_setObj_map _ hb]
              · rw [a1] at hr; cases hr
          · rw [e2] at hr; cases hr
      · rw [h2] at hr; cases hr
      · rw [h2] at hr; cases hr
  · rw [e1] at hr; cases hr

noncomputable def evMln (x : X) (e : Tr) (_ : Nat) (h : Hp) (n : Nat) : Res :=
  onMp (evX x e) (fun a => Option.rec .no (fun b => mark b.m .no (pv (small (lenL b.z) .bad) h n)) (h.get a)) (.ok (.n 0) h n) .no
theorem ok_mln {t key el : TypeId} {ox : Operand} {x : X} (hx : compX ox = some x) (ht : P.underlying t = some (.map key el)) (ho : o.op = .call { callee := .builtin .len, args := #[ox], argTypes := #[t] }) : OpOK P o (evMln x) := by
  intro e lim h n v h' n' hr ρ g w he m hd hf hn
  have rx := he ox x hx
  unfold evMln at hr
  rcases onMp_or (evX x e) (fun a => (Option.rec .no (fun b => mark b.m .no (pv (small (lenL b.z) .bad) h n)) (h.get a) : Res)) (.ok (.n 0) h n) .no with ⟨a, h1, h2⟩ | ⟨h1, h2⟩ | h2
  · rw [h2] at hr
    rw [h1, V.rel] at rx
    obtain ⟨r, hg, hv⟩ := rx
    cases hh : h.get a with
    | none => rw [hh] at hr; cases hr
    | some b =>
      rw [hh] at hr
      dsimp only at hr
      rcases mark_or b.m .no (pv (small (lenL b.z) .bad) h n) with ⟨hm, e2⟩ | e2
      · rw [e2] at hr
        obtain ⟨hne, rfl, rfl, rfl⟩ := pv_ok hr
        obtain ⟨_, es, clock, hb, hl⟩ := mem_map m hh hg hm
        rcases small_or (lenL b.z) .bad with ⟨hc, e1⟩ | e1
        · rw [e1]
          have hlen : es.size = lenL b.z := by rw [lenL_eq, ← L.rel_length hl]; simp
          refine ⟨.value (.int .i64 es.size), g, w, ?_, by rw [hlen]; exact rel_n g hc rfl, m, Fr.refl hd⟩
          simp [execOp, ho, resolve, invoke, builtin, Builtin.len_, run_underlying ht, hv, goInt, MapKept.run_getObj_map hb]
        · rw [e1] at hne; exact absurd rfl hne
      · rw [e2] at hr; cases hr
  · rw [h2] at hr
    cases hr
    rw [h1, V.rel] at rx
    exact ⟨.value (.int .i64 0), g, w, by simp [execOp, ho, resolve, invoke, builtin, Builtin.len_, run_underlying ht, rx, goInt], rel_n g (by omega) rfl, m, Fr.refl hd⟩
  · rw [h2] at hr; cases hr
end
end Go.Proofs.Ytjhgingmbklhaaa.Ev
