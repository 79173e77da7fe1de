/- append, and slices of arrays. -/
import Derived.Test.YtjhgingmbklhaaaEvG
namespace Go.Proofs.Ytjhgingmbklhaaa.Ev
set_option linter.unusedVariables false
open Go

theorem allC_app : ∀ {l m : L}, l.allC = true → m.allC = true → (l.app m).allC = true
  | .nil, _, _, h => h
  | .cons v l, m, h, h' => by simp [L.allC] at h; simp [L.app, L.allC, h.1, allC_app h.2 h']
theorem length_app : ∀ (l m : L), (l.app m).length = l.length + m.length
  | .nil, m => by simp [L.app, L.length]
  | .cons v l, m => by simp [L.app, L.length, length_app l m]; omega
theorem getL_length (b : Blk) : ∀ (n k : Nat), (b.getL k n).length = n
  | 0, _ => rfl
  | n + 1, k => by simp [Blk.getL, L.length, getL_length b n]
theorem cell_setL_out (b : Blk) : ∀ (l : L) (k j : Nat), k + l.length ≤ maxSize → j ≤ maxSize → (j < k ∨ k + l.length ≤ j) → (b.setL k l).cell j = b.cell j
  | .nil, k, j, _, _, _ => rfl
  | .cons x l, k, j, hk, hj, h => by
    have e : (L.cons x l).length = l.length + 1 := rfl
    rw [e] at hk h
    show ((b.setC k x).setL (k + 1) l).cell j = _
    rw [cell_setL_out (b.setC k x) l (k + 1) j (by omega) hj (by omega), cell_setC b k j x (by omega) hj, if_neg (by omega)]
theorem cell_setL_in (b : Blk) : ∀ (l : L) (k j : Nat), k + l.length ≤ maxSize → j ≤ maxSize → l.allC = true → k ≤ j → j < k + l.length → (b.setL k l).cell j = l.get (j - k)
  | .nil, k, j, _, _, _, h1, h2 => by simp [L.length] at h2; omega
  | .cons x l, k, j, hk, hj, hc, h1, h2 => by
    have e : (L.cons x l).length = l.length + 1 := rfl
    rw [e] at hk h2
    simp only [L.allC, Bool.and_eq_true] at hc
    have hx : x ≠ .bad := by intro e; rw [e] at hc; simp [V.isC] at hc
    show ((b.setC k x).setL (k + 1) l).cell j = _
    by_cases h3 : j = k
    · subst h3
      rw [cell_setL_out (b.setC j x) l (j + 1) j (by omega) hj (by omega), cell_setC b j j x (by omega) hj, if_pos rfl, orZ_ne _ hx, Nat.sub_self]; rfl
    · rw [cell_setL_in (b.setC k x) l (k + 1) j (by omega) hj hc.2 (by omega) (by omega), show j - k = (j - (k + 1)) + 1 by omega]; rfl

section
variable {P : Program} {o : Oper}

/-- The block of a slice that was appended to. -/
noncomputable def grown (bs : Blk) (so k : Nat) (news : L) : Blk :=
  Bool.rec (let l := (bs.getL so k).app news; ⟨bs.el, l.length, l.length, l, .lf⟩) { bs.setL k news with size := k + news.length } (Nat.beq so 0)
noncomputable def lst (el : TypeId) (l : L) : Blk := fN l.length fun k => ⟨el, k, k, l, .lf⟩
noncomputable def evApp (el esz by_ : Nat) (s x : X) (e : Tr) (lim : Nat) (h : Hp) (n : Nat) : Res :=
  onS (evX x e)
    (fun xp xo xe xl _ => Bool.rec
      (Option.rec .no (fun bx => Bool.rec .no
        (onS (evX s e)
          (fun sp so se sl cap => Option.rec .no (fun bs => Bool.rec .no
            (Option.rec
              (Bool.rec .no (fN (Nat.add sl xl) fun k => newB (grown bs so (sl * esz) (bx.getL xo (xl * esz))) (fun p => .sl p 0 esz k none) (h.put none sp) n)
                (Nat.ble lim sp.num))
              (fun c => Bool.rec
                (fN (Nat.add sl xl) fun k => newB (lst el ((bs.getL so (sl * esz)).app (bx.getL xo (xl * esz)))) (fun p => .sl p 0 esz k none) h n)
                (Bool.rec .no (h.putK (some (bs.setL (so + sl * esz) (bx.getL xo (xl * esz)))) sp fun h' => fN (Nat.add sl xl) fun k => .ok (.sl sp so esz k (some c)) h' n)
                  (and (Nat.ble lim sp.num) (Nat.ble (so + (sl + xl) * esz) bs.size)))
                (Nat.ble (sl + xl) c))
              cap)
            (and (Nat.beq se esz) (and (Nat.beq bs.el el) (and (Nat.ble (so + sl * esz) bs.size) (and (bs.getL so (sl * esz)).allC (and (Nat.ble ((sl + xl) * by_) 140737488355328) (Nat.ble ((sl + xl) * esz) 1099511627776))))))) (h.get sp))
          (newB (lst el (bx.getL xo (xl * esz))) (fun p => .sl p 0 esz xl none) h n)
          .no)
        (and (Nat.beq xe esz) (and (Nat.ble (xo + xl * esz) bx.size) (and (bx.getL xo (xl * esz)).allC (and (Nat.ble (xl * by_) 140737488355328) (Nat.ble (xl * esz) 1099511627776)))))) (h.get xp))
      (onS (evX s e) (fun a b c d f => .ok (.sl a b c d f) h n) (.ok .ns h n) .no) (Nat.beq xl 0))
    (onS (evX s e) (fun a b c d f => .ok (.sl a b c d f) h n) (.ok .ns h n) .no)
    .no

theorem run_app_none {t el : TypeId} {i : TypeInfo} (ht : P.underlying t = some (.slice el)) (hi : P.info? el = some i) (ty : TypeId) (b : Option Addr) (len cap : Nat) (hlc : len ≤ cap) (b' : Option Addr) (c' : Nat) (w : World) :
    (Builtin.append_ #[t, t] ty #[.slice b len cap, .slice b' 0 c']).run P w = .ok (.slice b len cap) w := by
  cases b <;> cases b' <;> simp [Builtin.append_, run_underlying ht, sizeOf, typeInfo, hi, Builtin.lenOf, hlc, Builtin.firstCells, loadCells, loadCellsFrom, storeCells]

theorem sl_len {g : Sig} {a : Pos} {o' e l : Nat} {c : Option Nat} {u : Value} (h : (V.sl a o' e l c).rel g u) : ∃ b c', u = .slice (some b) l c' ∧ l ≤ c' := by
  rw [V.rel] at h
  obtain ⟨r, base, tot, c0, oo, hg, hv, hesz, hlc, _⟩ := h
  exact ⟨_, c0, hv, hlc⟩

theorem exec_app {t t' : TypeId} {os ox : Operand} (ho : o.op = .call { callee := .builtin .append, args := #[os, ox], argTypes := #[t, t] }) (ρ : Operand → Value) (w : World) :
    (execOp ρ o).run P w = ((Builtin.append_ #[t, t] o.type #[ρ os, ρ ox]).run P w).andThen fun v w' => .ok (.value v) w' := by
  simp [execOp, ho, resolve, invoke, builtin]

theorem lst_eq (el : TypeId) (l : L) : lst el l = ⟨el, l.length, l.length, l, .lf⟩ := fN_eq _ _

theorem getL_get (b : Blk) : ∀ (n k j : Nat), j < n → (b.getL k n).get j = b.cell (k + j)
  | 0, _, _, h => by omega
  | n + 1, k, 0, _ => rfl
  | n + 1, k, j + 1, h => by
    show (b.getL (k + 1) n).get j = _
    rw [getL_get b n (k + 1) j (by omega)]; congr 1; omega

theorem allC_one {g : Sig} : ∀ {l : L} {vs : List Value}, l.allC = true → l.rel g vs → ∀ u ∈ vs, u.oneCell' = true
  | .nil, _, _, e => by rw [L.rel] at e; subst e; simp
  | .cons v l, _, hc, e => by
    rw [L.rel] at e
    obtain ⟨u, us, rfl, h2, h3⟩ := e
    simp only [L.allC, Bool.and_eq_true] at hc
    intro x hx
    rcases List.mem_cons.1 hx with rfl | hx
    · exact (V.isC_one hc.1 h2).1
    · exact allC_one hc.2 h3 x hx

/-- A new row of the length of a list of cells, and more behind it. -/
theorem newGrown {el k : Nat} {i : TypeInfo} {h h' : Hp} {n n' lim : Nat} {v : V} {b : Blk} (hb : b.el = el) {g : Sig} {w : World} (m : Mem g h.get w) (hd : Dom h.get n) (hf : Fresh g n n') (hn : n' < 9223372036854775808) (h0 : 0 < i.size)
    (hr : newB b (fun p => .sl p 0 i.size k none) h n = .ok v h' n') (vs rest : List Value) (cap : Nat) (hkc : k ≤ cap) (hcm : cap ≤ maxLen) (hcap : vs.length + rest.length = cap * i.size)
    (hs : b.size = vs.length) (hm : b.size ≤ maxSize) (hc : ∀ j, j < b.size → ∃ u, vs[j]? = some u ∧ u.oneCell' = true ∧ (b.cell j).rel g u) :
    ∃ g', NX g' v (.value (.slice (some ⟨w.heap.size, 0, none⟩) k cap)) ∧ Mem g' h'.get (w.alloc (.cells ⟨vs ++ rest⟩ el)) ∧ Fr lim n g h.get w n' g' h'.get (w.alloc (.cells ⟨vs ++ rest⟩ el)) := by
  obtain ⟨p, g', hle, hg', rfl, m', f'⟩ := newB_sound (lim := lim) hr m hd hf hn ⟨vs ++ rest⟩ (by simp; omega) hm (fun j hj => by
    obtain ⟨u, h1, h2, h3⟩ := hc j hj
    refine ⟨u, ?_, h2, h3⟩
    have : j < vs.length := by omega
    simp only [List.getElem?_toArray]
    rw [List.getElem?_append_left this]; exact h1)
  rw [hb] at m' f'
  refine ⟨g', ?_, m', f'⟩
  show V.rel g' (.sl p 0 i.size k none) _
  rw [V.rel]
  refine ⟨_, _, _, cap, 0, hg', rfl, h0, hkc, hcm, fun _ => rfl, ?_, ?_⟩
  · simp; omega
  · show 0 + 0 + cap * i.size = (⟨vs ++ rest⟩ : Array Value).size
    simp; omega
end
end Go.Proofs.Ytjhgingmbklhaaa.Ev
