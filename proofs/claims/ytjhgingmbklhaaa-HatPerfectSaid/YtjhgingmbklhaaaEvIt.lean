/- Strings' iterators: made, and asked for what comes next (ASCII alone). -/
import Derived.Test.YtjhgingmbklhaaaEvMp
namespace Go.Proofs.Ytjhgingmbklhaaa.Ev
set_option linter.unusedVariables false
open Go
noncomputable def itB (bs : List Nat) (pos : Nat) : Blk := ⟨0, 0, 1, .cons (.s bs) (.cons (.n pos) .nil), itM⟩
theorem itM_lf : itM ≠ .lf := fun e => by unfold itM at e; cases e
theorem mem_mkIt {g : Sig} {h : Hm} {w : World} (m : Mem g h w) {p : Pos} (h0 : g p = none) (bs : List Nat) : Mem (gput g p (w.heap.size, 1, 0)) (hput h p (some (itB bs 0))) (w.alloc (.stringIter ⟨⟨bs.map UInt8.ofNat⟩⟩ 0)) where
  inj := by
    intro q q' bq bq' r b1 t1 b2 t2 hq hq' e e'
    unfold hput at hq hq'
    unfold gput at e e'
    by_cases x : q = p <;> by_cases y : q' = p
    · rw [x, y]
    · rw [if_neg y] at hq' e'
      rw [if_pos x] at e
      cases e
      have := m.lt hq' e'
      omega
    · rw [if_neg x] at hq e
      rw [if_pos y] at e'
      cases e'
      have := m.lt hq e
      omega
    · rw [if_neg x] at hq e
      rw [if_neg y] at hq' e'
      exact m.inj q q' bq bq' r b1 t1 b2 t2 hq hq' e e'
  blk := by
    intro q c e
    unfold hput at e
    by_cases x : q = p
    · rw [if_pos x] at e
      cases e
      exact ⟨w.heap.size, 1, 0, #[], by simp [gput, x], .inr ⟨rfl, rfl, rfl, .inr (.inr ⟨_, 0, heap_alloc_new w _, .inr ⟨bs, rfl, rfl, rfl⟩⟩)⟩, rfl, .inl rfl, by show 0 ≤ maxSize; unfold maxSize; omega, fun k hk => absurd hk (Nat.not_lt_zero k)⟩
    · rw [if_neg x] at e
      obtain ⟨r, base, tot, cur', h1, h2, h3, h4, h5, h6⟩ := m.blk q c e
      refine ⟨r, base, tot, cur', by simp [gput, x, h1], (h2.mono (gput_le _ h0)).keep (heap_alloc_keep w _ r (m.lt e h1)), h3, h4, h5, ?_⟩
      intro k hk
      obtain ⟨v, h1, h2, h3⟩ := h6 k hk
      exact ⟨v, h1, h2, V.rel_mono (gput_le _ h0) _ h3⟩
theorem mem_it {g : Sig} {h : Hm} {w : World} (m : Mem g h w) {p : Pos} {b : Blk} (hp : h p = some b) {r : Nat} (hg : g p = some (r, 1, 0)) {bs : List Nat} {pos : Nat} (hz : b.z = .cons (.s bs) (.cons (.n pos) .nil)) (hm : b.m = itM) :
    w.heap[r]? = some (.stringIter ⟨⟨bs.map UInt8.ofNat⟩⟩ pos) := by
  obtain ⟨r', base, tot, cur, h1, h2, _⟩ := m.blk p b hp
  rw [hg] at h1
  cases h1
  have hn : b.m ≠ .lf := by rw [hm]; exact itM_lf
  rcases h2 with h2 | ⟨_, _, h3, ⟨es, clock, h4, h5⟩ | ⟨rec, h4, h5⟩ | ⟨s, pos', h4, h5⟩⟩
  · have := h2.2; omega
  · have h6 := h5.resolve_left hn
    rw [hz] at h6
    have ht : ∀ v ∈ es.toList.map entV, ∀ q, v ≠ .string q := fun v hv q e => by
      obtain ⟨x, _, hx⟩ := List.mem_map.1 hv
      rw [← hx] at e; unfold entV at e; cases e
    generalize es.toList.map entV = zs at h6 ht
    rw [L.rel] at h6
    obtain ⟨u, us, hzs, h7, _⟩ := h6
    rw [V.rel] at h7
    exact absurd h7 (ht u (by rw [hzs]; exact List.mem_cons_self ..) _)
  · obtain ⟨N, ps, x, y, v0, h6, _⟩ := h5.resolve_left hn
    rw [hz] at h6; cases h6
  · obtain ⟨bs', h6, h7, _⟩ := h5.resolve_left hn
    rw [hz] at h6
    cases h6
    rw [h4, h7]
theorem mem_setIt {g : Sig} {h : Hm} {w : World} (m : Mem g h w) {p : Pos} {b : Blk} (hp : h p = some b) {r : Nat} (hg : g p = some (r, 1, 0)) (bs : List Nat) (pos : Nat) :
    Mem g (hput h p (some (itB bs pos))) { w with heap := w.heap.setIfInBounds r (.stringIter ⟨⟨bs.map UInt8.ofNat⟩⟩ pos) } where
  inj := by
    intro q q' bq bq' r' b1 t1 b2 t2 hq hq' e e'
    have : ∀ {q : Pos} {c : Blk}, hput h p (some (itB bs pos)) q = some c → ∃ c', h q = some c' := by
      intro q c e
      unfold hput at e
      split at e
      · rename_i e'; subst e'; exact ⟨b, hp⟩
      · exact ⟨c, e⟩
    obtain ⟨c, hc⟩ := this hq
    obtain ⟨c', hc'⟩ := this hq'
    exact m.inj q q' c c' r' b1 t1 b2 t2 hc hc' e e'
  blk := by
    intro q c e
    unfold hput at e
    have hlt := m.lt hp hg
    by_cases hq : q = p
    · rw [if_pos hq] at e
      cases e
      subst hq
      exact ⟨r, 1, 0, #[], hg, .inr ⟨rfl, rfl, rfl, .inr (.inr ⟨_, pos, by show (w.heap.setIfInBounds r _)[r]? = _; simp [hlt], .inr ⟨bs, rfl, rfl, rfl⟩⟩)⟩, rfl, .inl rfl, by show 0 ≤ maxSize; unfold maxSize; omega, fun k hk => absurd hk (Nat.not_lt_zero k)⟩
    · rw [if_neg hq] at e
      obtain ⟨r', base', tot', cur, h1, h2, h3, h4, h5, h6⟩ := m.blk q c e
      refine ⟨r', base', tot', cur, h1, ?_, h3, h4, h5, h6⟩
      refine h2.keep (heap_setObj w r r' _ ?_)
      intro he
      subst he
      exact hq (m.inj q p c b r' base' tot' 1 0 e hp h1 hg)
section
variable {P : Program} {o : Oper}
noncomputable def evRng (x : X) (e : Tr) (_ : Nat) (h : Hp) (n : Nat) : Res := onStr (evX x e) (fun bs => Bool.rec .no (posK 63 n fun p => fN (Nat.succ n) fun n' => h.putK (some (itB bs 0)) p fun h' => .ok (.lp n #[] .skip .skip) h' n') (Nat.ble 1 n)) .no
theorem ok_rng {t : TypeId} {ox : Operand} {x : X} (hx : compX ox = some x) (ht : P.underlying t = some .string) (ho : o.op = .range t ox) : OpOK P o (evRng x) := by
  intro e lim h n v h' n' hr ρ g w he m hd hf hn
  unfold evRng at hr
  have rx := he ox x hx
  rcases onStr_or (evX x e) (fun bs => (Bool.rec .no (posK 63 n fun p => fN (Nat.succ n) fun n' => h.putK (some (itB bs 0)) p fun h' => .ok (.lp n #[] .skip .skip) h' n') (Nat.ble 1 n) : Res)) .no with ⟨bs, e1, e2⟩ | e2
  · rw [e2] at hr
    rw [e1, V.rel] at rx
    cases hb : Nat.ble 1 n
    · rw [hb] at hr; cases hr
    · rw [hb] at hr
      rw [Nat.ble_eq] at hb
      have hr : posK 63 n (fun p => fN (Nat.succ n) fun n' => h.putK (some (itB bs 0)) p fun h' => Res.ok (.lp n #[] .skip .skip) h' n') = .ok v h' n' := hr
      rw [posK_eq, fN_eq, Hp.putK_eq] at hr
      cases hr
      have hpn : (posF 63 n).num = n := num_posF 63 n hb (by omega)
      have h0 : g (posF 63 n) = none := hf _ (by omega) (by omega)
      refine ⟨.value (.pointer (some ⟨w.heap.size, 0, none⟩)), gput g (posF 63 n) (w.heap.size, 1, 0), w.alloc (.stringIter ⟨⟨bs.map UInt8.ofNat⟩⟩ 0), ?_, ⟨by omega, w.heap.size, by simp [gput], rfl⟩, ?_, ?_⟩
      · simp only [execOp, ho, rx, Instr.range, Sem.run_bind, run_underlying ht, Result.andThen_ok, Sem.run_pure, run_newObj]; rfl
      · rw [Hp.put_get]; exact mem_mkIt m h0 bs
      · rw [Hp.put_get]; exact Fr.ofAlloc hd hpn _ _ _ _
  · rw [e2] at hr; cases hr
def isIt : Tb → Bool
  | .nd .lf (.n 0) .lf => true
  | _ => false
theorem isIt_eq {m : Tb} (h : isIt m = true) : m = itM := by
  unfold isIt at h
  split at h
  · rfl
  · cases h
/-- What comes next in a string: whether there is a letter, where it stands, the letter. -/
noncomputable def evNxt (x : X) (e : Tr) (lim : Nat) (h : Hp) (n : Nat) : Res := match evX x e with
  | .lp N _ _ _ => (match h.get (posF 63 N) with
    | some b => (match b.z with
      | .cons (.s bs) (.cons (.n pos) .nil) => Bool.rec .no (match bs[pos]? with
        | none => .ok (.tu (.cons (.b false) .nil)) h n
        | some c => Bool.rec .no (fN (Nat.succ pos) fun q => h.putK (some (itB bs q)) (posF 63 N) fun h' => .ok (.tu (.cons (.b true) (.cons (.n pos) (.cons (.i .i32 (.ofNat c)) .nil)))) h' n) (Nat.blt c 128))
          (and (isIt b.m) (and (Nat.ble lim (posF 63 N).num) (Nat.blt pos 9223372036854775808)))
      | _ => .no)
    | none => .no)
  | _ => .no
theorem decode_ascii {bs : List Nat} {pos c : Nat} (h : bs[pos]? = some c) (hc : c < 128) : Utf8.decode ⟨⟨bs.map UInt8.ofNat⟩⟩ pos = (c, 1) := by
  have h0 : ((⟨⟨bs.map UInt8.ofNat⟩⟩ : ByteArray).get! (pos + 0)).toNat = c := by
    have hlt : pos < bs.length := (List.getElem?_eq_some_iff.1 h).1
    have he : bs[pos] = c := (List.getElem?_eq_some_iff.1 h).2
    simp [ByteArray.get!, hlt, he]
    omega
  unfold Utf8.decode
  simp only [h0]
  rw [if_pos (by omega)]
theorem ok_nxt {ox : Operand} {x : X} (hx : compX ox = some x) (ho : o.op = .next ox true) : OpOK P o (evNxt x) := by
  intro e lim h n v h' n' hr ρ g w he m hd hf hn
  unfold evNxt at hr
  have rx := he ox x hx
  split at hr
  case h_2 => cases hr
  rename_i N ps xa xb hv
  rw [hv, V.rel] at rx
  obtain ⟨hN, r, hg, hw⟩ := rx
  split at hr
  case h_2 => cases hr
  rename_i b hb
  split at hr
  case h_2 => cases hr
  rename_i bs pos hz
  cases hc : and (isIt b.m) (and (Nat.ble lim (posF 63 N).num) (Nat.blt pos 9223372036854775808))
  · rw [hc] at hr; cases hr
  · rw [hc] at hr
    simp only [Bool.and_eq_true, Nat.ble_eq, Nat.blt_eq] at hc
    obtain ⟨c1, c2, c3⟩ := hc
    have hit := mem_it m hb hg hz (isIt_eq c1)
    have hget : (getObj r).run P w = .ok (.stringIter ⟨⟨bs.map UInt8.ofNat⟩⟩ pos) w := by simp [getObj, Sem.run, hit]
    have hset : ∀ ob, (setObj r ob).run P w = .ok () { w with heap := w.heap.setIfInBounds r ob } := fun ob => by simp [setObj, Sem.run, hit]
    have hsz : (⟨⟨bs.map UInt8.ofNat⟩⟩ : ByteArray).size = bs.length := by simp [ByteArray.size]
    dsimp only at hr
    split at hr
    · rename_i hnone
      cases hr
      have hge : ¬ pos < bs.length := fun hl => by rw [List.getElem?_eq_getElem hl] at hnone; cases hnone
      refine ⟨.value (.tuple #[.bool false]), g, w, ?_, ⟨[.bool false], rfl, _, _, rfl, rfl, rfl⟩, m, Fr.refl hd⟩
      simp only [execOp, ho, hw, Instr.next, Sem.run_bind, hget, Result.andThen_ok, hsz, if_neg hge, Sem.run_pure]
    · rename_i c hsome
      cases hc2 : Nat.blt c 128
      · rw [hc2] at hr; cases hr
      · rw [hc2] at hr
        rw [Nat.blt_eq] at hc2
        have hr : (fN (Nat.succ pos) fun q => h.putK (some (itB bs q)) (posF 63 N) fun h' => Res.ok (.tu (.cons (.b true) (.cons (.n pos) (.cons (.i .i32 (.ofNat c)) .nil)))) h' n) = .ok v h' n' := hr
        rw [fN_eq, Hp.putK_eq] at hr
        cases hr
        have hlt : pos < bs.length := (List.getElem?_eq_some_iff.1 hsome).1
        have hdec := decode_ascii hsome hc2
        refine ⟨.value (.tuple #[.bool true, goInt pos, .int .i32 c]), g, { w with heap := w.heap.setIfInBounds r (.stringIter ⟨⟨bs.map UInt8.ofNat⟩⟩ (pos + 1)) }, ?_, ⟨[.bool true, goInt pos, .int .i32 c], rfl, _, _, rfl, rfl, _, _, rfl, ⟨rfl, c3⟩, _, _, rfl, rfl, rfl⟩, ?_, ?_⟩
        · simp only [execOp, ho, hw, Instr.next, Sem.run_bind, hget, Result.andThen_ok, hsz, if_pos hlt, hdec, hset, Sem.run_pure]
        · rw [Hp.put_get]; exact mem_setIt m hb hg bs (pos + 1)
        · rw [Hp.put_get]; exact fr_setMap hd hb c2 hg _ _
/-- A letter as a string. -/
def r2sV : V → V
  | .i _ (.ofNat c) => if c < 128 then .s [c] else .bad
  | .n c => if c < 128 then .s [c] else .bad
  | _ => .bad
noncomputable def evR2s (x : X) (e : Tr) (_ : Nat) (h : Hp) (n : Nat) : Res := pv (r2sV (evX x e)) h n
theorem encode_ascii {c : Nat} (hc : c < 128) : Utf8.encode (c : Int) = ⟨⟨[c].map UInt8.ofNat⟩⟩ := by
  have hv : Utf8.valid (c : Int) = true := by simp [Utf8.valid]; omega
  unfold Utf8.encode
  simp only [hv, if_true, Int.toNat_natCast]
  rw [if_pos (by omega)]
  rfl
theorem ok_r2s {s d : TypeId} {ox : Operand} {x : X} (hx : compX ox = some x) (hs : (P.underlying s).isSome = true) (hd : P.underlying d = some .string) (ho : o.op = .convert s d ox) : OpOK P o (evR2s x) :=
  ok_pure (val := fun e => r2sV (evX x e)) fun e g ρ w he hne => by
    have rx := he ox x hx
    obtain ⟨ts, hts⟩ := Option.isSome_iff_exists.1 hs
    have key : ∀ (k : IntKind) (c : Nat), c < 128 → ρ ox = .int k c → ∃ u, (execOp ρ o).run P w = .ok (.value u) w ∧ (V.s [c]).rel g u := fun k c hc hv =>
      ⟨.string ⟨⟨[c].map UInt8.ofNat⟩⟩, by
        have hcv : (convert s d (.int k c)).run P w = .ok (.string ⟨⟨[c].map UInt8.ofNat⟩⟩) w := by
          unfold convert
          simp only [Sem.run_bind, run_underlying hts, run_underlying hd, Result.andThen_ok]
          cases ts <;> simp only [Conv.intToString, Sem.run_pure, encode_ascii hc]
        simp only [execOp, ho, hv, Sem.run_bind, hcv, Result.andThen_ok, Sem.run_pure], rfl⟩
    revert hne
    cases hxv : evX x e <;> rw [hxv] at rx <;> intro hne <;> try exact absurd rfl hne
    case n c =>
      rw [V.rel] at rx
      have e0 : r2sV (.n c) = if c < 128 then .s [c] else .bad := rfl
      rw [e0] at hne ⊢
      by_cases hc : c < 128
      · rw [if_pos hc]; exact key _ c hc rx.1
      · rw [if_neg hc] at hne; exact absurd rfl hne
    case i k z =>
      rw [V.rel] at rx
      cases z with
      | negSucc => exact absurd rfl hne
      | ofNat c =>
        have e0 : r2sV (.i k (.ofNat c)) = if c < 128 then .s [c] else .bad := rfl
        rw [e0] at hne ⊢
        by_cases hc : c < 128
        · rw [if_pos hc]; exact key k c hc rx
        · rw [if_neg hc] at hne; exact absurd rfl hne
end
end Go.Proofs.Ytjhgingmbklhaaa.Ev
