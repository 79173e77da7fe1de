/- The table of bits.TrailingZeros, number by number. -/
import Derived.Test.YtenlmjnejjdnnaaDoorRcG
import Derived.Test.YtenlmjnejjdnnaaDoorLcA
namespace Go.Proofs.YtenlmjnejjdnnaaDoor
open Go.RowKit Cl

theorem HasTab.cell {w : World} (h : HasTab w) {i : Nat} (hi : i < 64) : w.cell? ⟨1, i, none⟩ = some (.int .u8 (Ev.zs64.getD i 0)) := by
  obtain ⟨el, ⟨_, _, _, vs, h4, h5⟩, _⟩ := h
  have hr := h5 (fun _ => none)
  have hlen : vs.length = 64 := by rw [Ev.L.rel_length hr, Ev.kL_length]; rfl
  have hv : vs = Ev.zs64.map fun z => Value.int .u8 z := by
    have key : ∀ (zs : List Int) (us : List Value), (Ev.kL .u8 zs).rel (fun _ => none) us → us = zs.map fun z => Value.int .u8 z := by
      intro zs
      induction zs with
      | nil => intro us h; exact h
      | cons z zs ih =>
        intro us h
        obtain ⟨u, us', rfl, h1, h2⟩ := h
        have h1 : u = .int .u8 z := h1
        rw [h1, ih us' h2]; rfl
    exact key _ _ hr
  subst hv
  rw [cell_of_row w 1 i _ _ _ h4]
  have hz : i < Ev.zs64.length := hi
  simp [List.getD, hz]

def lowBit (x : Nat) : Nat := x &&& (18446744073709551616 - x)
def dbIdx (x : Nat) : Nat := lowBit x * 285870213051353865 % 18446744073709551616 / 288230376151711744
def tzOK (x : Nat) : Bool := Nat.blt (dbIdx x) 64 && Nat.beq (x % 2 ^ ((Ev.zs64.getD (dbIdx x) 0).toNat + 1)) (2 ^ (Ev.zs64.getD (dbIdx x) 0).toNat) && decide (0 ≤ Ev.zs64.getD (dbIdx x) 0) && Nat.ble (Ev.zs64.getD (dbIdx x) 0).toNat 16
set_option maxRecDepth 100000 in
theorem tz_all : ∀ a, a < 256 → ∀ b, b < 256 → 0 < 256 * a + b → tzOK (256 * a + b) = true := by decide +kernel

end Go.Proofs.YtenlmjnejjdnnaaDoor
