/- The places are given out in order. -/
import Derived.Test.YtjhgingmbklhaaaEvL
namespace Go.Proofs.Ytjhgingmbklhaaa.Ev
set_option linter.unusedVariables false
open Go

def Res.ge (n : Nat) : Res → Prop
  | .no => True
  | .ok _ _ n' => n ≤ n'
theorem Res.ge_mono {n m : Nat} (h : n ≤ m) : ∀ {r : Res}, r.ge m → r.ge n
  | .no, _ => trivial
  | .ok .., e => Nat.le_trans h e
section
variable {n : Nat}
theorem ge_no : Res.ge n .no := trivial
theorem ge_ok {v : V} {h : Hp} : Res.ge n (.ok v h n) := Nat.le_refl n
theorem ge_pv (v : V) (h : Hp) : (pv v h n).ge n := by cases v <;> first | exact trivial | exact Nat.le_refl n
theorem ge_newB (b : Blk) (k : Pos → V) (h : Hp) : (newB b k h n).ge n := by
  unfold newB
  cases Nat.ble 1 n
  · trivial
  · show (posK 63 n (fun p => fN (Nat.succ n) fun n' => h.putK (some b) p fun h' => Res.ok (k p) h' n')).ge n
    rw [posK_eq, fN_eq, Hp.putK_eq]; exact Nat.le_succ n
theorem ge_onStr {v : V} {f : List Nat → Res} {z : Res} (h : ∀ a, (f a).ge n) (hz : z.ge n) : (onStr v f z).ge n := by
  show (RV'.rec (motive := fun _ => Res) z f v.asStr).ge n
  cases v.asStr
  · exact hz
  · exact h _
theorem ge_onI {v : V} {f : Nat → Res} {z : Res} (h : ∀ a, (f a).ge n) (hz : z.ge n) : (onI v f z).ge n := by
  show (NV.rec (motive := fun _ => Res) z f v.asNat).ge n
  cases v.asNat
  · exact hz
  · exact h _
theorem ge_onN {v : V} {f : Nat → Res} {z : Res} (h : ∀ a, (f a).ge n) (hz : z.ge n) : (onN v f z).ge n := by
  rcases onN_or v f z with ⟨a, _, e⟩ | e <;> rw [e]
  · exact h a
  · exact hz
theorem ge_onP {v : V} {f : Pos → Nat → Res} {z : Res} (h : ∀ a b, (f a b).ge n) (hz : z.ge n) : (onP v f z).ge n := by
  rcases onP_or v f z with ⟨a, b, _, e⟩ | e <;> rw [e]
  · exact h a b
  · exact hz
theorem ge_onS {v : V} {f : Pos → Nat → Nat → Nat → Option Nat → Res} {y z : Res} (h : ∀ a b c d e, (f a b c d e).ge n) (hy : y.ge n) (hz : z.ge n) : (onS v f y z).ge n := by
  rcases onS_or v f y z with ⟨a, b, c, d, e, _, h1⟩ | ⟨_, h1⟩ | h1 <;> rw [h1]
  · exact h a b c d e
  · exact hy
  · exact hz
theorem ge_bool {b : Bool} {x y : Res} (hx : x.ge n) (hy : y.ge n) : (Bool.rec x y b : Res).ge n := by cases b <;> assumption
theorem ge_opt {α : Type} {o : Option α} {x : Res} {f : α → Res} (hx : x.ge n) (hf : ∀ a, (f a).ge n) : (Option.rec x f o : Res).ge n := by cases o <;> first | exact hx | exact hf _
theorem ge_fN {k : Nat} {f : Nat → Res} (hf : ∀ a, (f a).ge n) : (fN k f).ge n := by rw [fN_eq]; exact hf k
theorem ge_putK {b : Option Blk} {p : Pos} {h : Hp} {f : Hp → Res} (hf : ∀ a, (f a).ge n) : (h.putK b p f).ge n := by rw [Hp.putK_eq]; exact hf _

theorem ge_onB {v : V} {f : Bool → Res} {z : Res} (h : ∀ a, (f a).ge n) (hz : z.ge n) : (onB v f z).ge n := by
  rcases onB_or v f z with ⟨a, _, e⟩ | e <;> rw [e]
  · exact h a
  · exact hz
theorem ge_onMp {v : V} {f : Pos → Res} {y z : Res} (h : ∀ a, (f a).ge n) (hy : y.ge n) (hz : z.ge n) : (onMp v f y z).ge n := by
  rcases onMp_or v f y z with ⟨a, _, h1⟩ | ⟨_, h1⟩ | h1 <;> rw [h1]
  · exact h a
  · exact hy
  · exact hz
theorem ge_mark {m : Tb} {x y : Res} (hx : x.ge n) (hy : y.ge n) : (mark m x y).ge n := by
  rcases mark_or m x y with ⟨_, e⟩ | e <;> rw [e] <;> assumption
theorem ge_fnd {k : KK} {x : V} {fo : Nat → L → Res} {mi ba : Res} (hf : ∀ a b, (fo a b).ge n) (hm : mi.ge n) (hb : ba.ge n) : ∀ (l : L) (i : Nat), (fndI k x fo mi ba l i).ge n
  | .nil, i => hm
  | .cons v l, i => by
    show (onT v (fun kv => onB (keq k x (nthL 0 kv)) (fun t => Bool.rec (fndI k x fo mi ba l (i + 1)) (fo i kv) t) ba) ba).ge n
    rcases onT_or v (fun kv => onB (keq k x (nthL 0 kv)) (fun t => (Bool.rec (fndI k x fo mi ba l (i + 1)) (fo i kv) t : Res)) ba) ba with ⟨kv, _, e⟩ | e <;> rw [e]
    · exact ge_onB (fun t => ge_bool (ge_fnd hf hm hb l (i + 1)) (hf _ _)) hb
    · exact hb

def FF.mono (F : FF) : Prop := ∀ f a lim h n, (F f a lim h n).ge n

theorem O.ev_ge {F : FF} (hF : F.mono) (o : O) (e : Tr) (lim : Nat) (h : Hp) : (o.ev F e lim h n).ge n := by
  cases o
  case mv => exact Nat.le_refl n
  case mkf => exact Nat.le_refl n
  case call => exact hF _ _ _ _ _
  case callv x xs =>
    show (evCallv x xs F e lim h n).ge n
    unfold evCallv
    cases evX x e <;> first | exact hF _ _ _ _ _ | exact trivial
  case build z ps =>
    show (evBuild z ps e lim h n).ge n
    unfold evBuild okL
    split
    · exact Nat.le_refl n
    · trivial
  case alloc => exact ge_newB _ _ _
  case box el x =>
    show (evBox el x e lim h n).ge n
    unfold evBox
    exact ge_bool ge_no (ge_fN fun _ => ge_bool ge_no (ge_newB _ _ _))
  case ld k agg x =>
    show (evLd k agg x e lim h n).ge n
    unfold evLd
    exact ge_onP (fun _ _ => ge_opt ge_no fun _ => ge_bool ge_no (ge_bool ge_ok ge_ok)) ge_no
  case st k x y =>
    show (evSt k x y e lim h n).ge n
    unfold evSt
    exact ge_onP (fun _ _ => ge_opt ge_no fun _ => ge_bool ge_no (ge_putK fun _ => ge_ok)) ge_no
  case bsl el s l z ps =>
    show (evBsl el s l z ps e lim h n).ge n
    unfold evBsl
    exact ge_opt ge_no fun _ => ge_bool ge_no (ge_newB _ _ _)
  case mks el s b zl z xl xc =>
    show (evMks el s b zl z xl xc e lim h n).ge n
    unfold evMks
    exact ge_onI (fun _ => ge_onI (fun _ => ge_bool ge_no (ge_fN fun _ => ge_newB _ _ _)) ge_no) ge_no
  case sla l s x a b c =>
    show (evSla l s x a b c e lim h n).ge n
    unfold evSla
    exact ge_onP (fun _ _ => ge_opt ge_no fun _ => ge_bool ge_no (ge_pv _ _)) ge_no
  case app el s b x y =>
    show (evApp el s b x y e lim h n).ge n
    unfold evApp
    have hs : (onS (evX x e) (fun a b c d f => Res.ok (.sl a b c d f) h n) (.ok .ns h n) .no).ge n := ge_onS (fun _ _ _ _ _ => ge_ok) ge_ok ge_no
    refine ge_onS (fun _ _ _ _ _ => ge_bool (ge_opt ge_no fun _ => ge_bool ge_no (ge_onS (fun _ _ _ _ _ => ge_opt ge_no fun _ => ge_bool ge_no ?_) (ge_newB _ _ _) ge_no)) hs) hs ge_no
    exact ge_opt (ge_bool ge_no (ge_fN fun _ => ge_newB _ _ _)) fun _ => ge_bool (ge_fN fun _ => ge_newB _ _ _) (ge_bool ge_no (ge_putK fun _ => ge_fN fun _ => ge_ok))
  case nope => trivial
  case rng x =>
    show (evRng x e lim h n).ge n
    unfold evRng
    refine ge_onStr (fun _ => ge_bool ge_no ?_) ge_no
    rw [posK_eq, fN_eq, Hp.putK_eq]; exact Nat.le_succ n
  case nxt x =>
    show (evNxt x e lim h n).ge n
    unfold evNxt
    split
    · split
      · split
        · refine ge_bool ge_no ?_
          split
          · exact ge_ok
          · exact ge_bool ge_no (ge_fN fun _ => ge_putK fun _ => ge_ok)
        · exact ge_no
      · exact ge_no
    · exact ge_no
  case mkm =>
    show (evMkm e lim h n).ge n
    unfold evMkm
    refine ge_bool ge_no ?_
    rw [posK_eq, fN_eq, Hp.putK_eq]; exact Nat.le_succ n
  case lkp k z ok x i =>
    show (evLkp k z ok x i e lim h n).ge n
    unfold evLkp
    exact ge_onB (fun _ => ge_bool ge_no (ge_onMp (fun _ => ge_opt ge_no fun _ => ge_mark ge_no (ge_fnd (fun _ _ => ge_ok) ge_ok ge_no _ _)) ge_ok ge_no)) ge_no
  case mup k x i y =>
    show (evMup k x i y e lim h n).ge n
    unfold evMup
    exact ge_onB (fun _ => ge_bool ge_no (ge_onMp (fun _ => ge_opt ge_no fun _ => ge_mark ge_no (ge_bool ge_no (ge_fnd (fun _ _ => ge_onB (fun _ => ge_bool ge_no (ge_putK fun _ => ge_ok)) ge_no) (ge_putK fun _ => ge_ok) ge_no _ _))) ge_no ge_no)) ge_no
  case mln x =>
    show (evMln x e lim h n).ge n
    unfold evMln
    exact ge_onMp (fun _ => ge_opt ge_no fun _ => ge_mark ge_no (ge_pv _ _)) ge_ok ge_no
  case s2b el x =>
    show (evS2b el x e lim h n).ge n
    unfold evS2b
    exact ge_onStr (fun _ => ge_fN fun _ => ge_bool ge_no (ge_newB _ _ _)) ge_no
  case cpy x y =>
    show (evCpy x y e lim h n).ge n
    unfold evCpy
    refine ge_onS (fun _ _ _ _ _ => ge_onS (fun _ _ _ _ _ => ge_opt ge_no fun _ => ge_opt ge_no fun _ => ge_fN fun _ => ge_bool ge_no (ge_putK fun _ => ge_ok)) ge_ok ge_no) (ge_onS (fun _ _ _ _ _ => ge_ok) ge_ok ge_no) ge_no
  all_goals exact ge_pv _ _
end

/-! Regions. -/
inductive RL where
  | nil | cons (dst : Option Pos) (gd : Option (Pos × Bool)) (o : O) (l : RL)
inductive Rg where
  | no | ok (e : Tr) (h : Hp) (n : Nat)
noncomputable def putd {β : Type} (d : Option Pos) (v : V) (e : Tr) (k : Tr → β) : β := Option.rec (motive := fun _ => β) (k e) (fun p => e.setK v p k) d
noncomputable def setD (d : Option Pos) (v : V) (e : Tr) : Tr := match d with | none => e | some p => e.set v p
theorem putd_eq {β : Type} (d : Option Pos) (v : V) (e : Tr) (k : Tr → β) : putd d v e k = k (setD d v e) := by
  cases d
  · rfl
  · exact Tr.setK_eq _ _ _ _
/-- Whether a guarded operation is wanted; a value that is no bool: it isn't. -/
noncomputable def guardR (g : V) (b : Bool) (run skip z : Rg) : Rg := onB g (fun t => Bool.rec (Bool.rec run skip b) (Bool.rec skip run b) t) (onT g (fun l => L.rec (motive_1 := fun _ => Unit) (motive_2 := fun _ => Rg) () (fun _ => ()) (fun _ _ => ()) (fun _ => ()) (fun _ _ => ()) () (fun _ _ _ _ _ => ()) () (fun _ _ => ()) (fun _ _ => ()) (fun _ _ _ _ _ => ()) () (fun _ => ()) (fun _ _ _ => ()) () (fun _ => ()) () (fun _ => ()) (fun _ _ _ _ => ()) skip (fun _ _ _ _ => z) l) z)
noncomputable def runR (d : Option Pos) (o : O) (ih : FF → Nat → Tr → Hp → Nat → Rg) (F : FF) (lim : Nat) (e : Tr) (h : Hp) (n : Nat) : Rg :=
  Res.rec (motive := fun _ => Rg) .no (fun v h' n' => putd d v e fun e' => ih F lim e' h' n') (o.ev F e lim h n)
noncomputable def evR : RL → FF → Nat → Tr → Hp → Nat → Rg :=
  RL.rec (motive := fun _ => FF → Nat → Tr → Hp → Nat → Rg) (fun _ _ e h n => .ok e h n)
    (fun d g o _ ih F lim e h n => Option.rec (motive := fun _ => Rg) (runR d o ih F lim e h n)
      (fun gd => guardR (e.get gd.1) gd.2 (runR d o ih F lim e h n) (putd d (.tu .nil) e fun e' => ih F lim e' h n) .no) g)

def Rg.ge (n : Nat) : Rg → Prop
  | .no => True
  | .ok _ _ n' => n ≤ n'
theorem evR_ge {F : FF} (hF : F.mono) : ∀ (l : RL) (lim : Nat) (e : Tr) (h : Hp) (n : Nat), (evR l F lim e h n).ge n
  | .nil, _, _, _, n => Nat.le_refl n
  | .cons d g o l, lim, e, h, n => by
    have hrun : (runR d o (evR l) F lim e h n).ge n := by
      unfold runR
      cases hr : o.ev F e lim h n with
      | no => trivial
      | ok v h' n' =>
        have h1 := O.ev_ge (n := n) hF o e lim h
        rw [hr] at h1
        have h1 : n ≤ n' := h1
        show (putd d v e fun e' => evR l F lim e' h' n').ge n
        rw [putd_eq]
        have := evR_ge hF l lim (setD d v e) h' n'
        revert this
        generalize evR l F lim (setD d v e) h' n' = r
        cases r with
        | no => intro _; trivial
        | ok e2 h2 n2 => intro this; exact Nat.le_trans h1 this
    have hskip : (putd d (.tu .nil) e fun e' => evR l F lim e' h n).ge n := by rw [putd_eq]; exact evR_ge hF l lim _ h n
    cases g with
    | none => exact hrun
    | some gd =>
      show (guardR (e.get gd.1) gd.2 (runR d o (evR l) F lim e h n) (putd d (.tu .nil) e fun e' => evR l F lim e' h n) .no).ge n
      unfold guardR
      cases e.get gd.1
      case b x => cases x <;> cases gd.2 <;> first | exact hrun | exact hskip
      case tu l => cases l <;> first | exact hskip | trivial
      all_goals trivial
end Go.Proofs.Ytjhgingmbklhaaa.Ev
