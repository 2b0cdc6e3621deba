/- Products in 128 bits, by halves. No condition but that numbers are numbers. -/
import Derived.Test.YtlefbdbafmmoiaaLow
import Derived.Test.YtlefbdbafmmoiaaOnly
namespace Go.Proofs.Ytlefbdbafmmoiaa
open Go.RowKit

theorem low32 (x : Int) (x0 : 0 ≤ x) (x1 : x ≤ 18446744073709551615) : bits .and .u64 x 4294967295 = x % 4294967296 :=
  and_most x 32 x0 (by omega) (by decide)

theorem half_bd {a b : Int} (a0 : 0 ≤ a) (a1 : a ≤ 4294967295) (b0 : 0 ≤ b) (b1 : b ≤ 4294967295) : 0 ≤ a * b ∧ a * b ≤ 18446744065119617025 := by
  refine ⟨Int.mul_nonneg a0 b0, ?_⟩
  have := Int.mul_le_mul a1 b1 b0 (by decide)
  omega

theorem hi_eq (x y : Int) (x0 : 0 ≤ x) (x1 : x ≤ 18446744073709551615) (y0 : 0 ≤ y) (y1 : y ≤ 18446744073709551615) :
    IntKind.u64.wrap (IntKind.u64.wrap (IntKind.u64.wrap (x / 4294967296 * (y / 4294967296)) + IntKind.u64.wrap (IntKind.u64.wrap (x / 4294967296 * bits .and .u64 y 4294967295) + IntKind.u64.wrap (bits .and .u64 x 4294967295 * bits .and .u64 y 4294967295) / 4294967296) / 4294967296) +
      IntKind.u64.wrap (bits .and .u64 (IntKind.u64.wrap (IntKind.u64.wrap (x / 4294967296 * bits .and .u64 y 4294967295) + IntKind.u64.wrap (bits .and .u64 x 4294967295 * bits .and .u64 y 4294967295) / 4294967296)) 4294967295 + IntKind.u64.wrap (bits .and .u64 x 4294967295 * (y / 4294967296))) / 4294967296) =
      x * y / 18446744073709551616 := by
  rw [low32 x x0 x1, low32 y y0 y1]
  obtain ⟨a, ha⟩ : ∃ a, x / 4294967296 = a := ⟨_, rfl⟩
  obtain ⟨b, hb⟩ : ∃ b, x % 4294967296 = b := ⟨_, rfl⟩
  obtain ⟨c, hc⟩ : ∃ c, y / 4294967296 = c := ⟨_, rfl⟩
  obtain ⟨d, hd⟩ : ∃ d, y % 4294967296 = d := ⟨_, rfl⟩
  have hx : x = a * 4294967296 + b := by omega
  have hy : y = c * 4294967296 + d := by omega
  have e : x * y = a * c * 18446744073709551616 + (a * d + b * c) * 4294967296 + b * d := by rw [hx, hy]; grind
  rw [ha, hb, hc, hd, e]
  have p1 := half_bd (a := a) (b := c) (by omega) (by omega) (by omega) (by omega)
  have p2 := half_bd (a := a) (b := d) (by omega) (by omega) (by omega) (by omega)
  have p3 := half_bd (a := b) (b := c) (by omega) (by omega) (by omega) (by omega)
  have p4 := half_bd (a := b) (b := d) (by omega) (by omega) (by omega) (by omega)
  generalize a * c = P1 at *
  generalize a * d = P2 at *
  generalize b * c = P3 at *
  generalize b * d = P4 at *
  clear e hx hy ha hb hc hd
  rw [wrap_small P1 (by omega) (by omega), wrap_small P2 (by omega) (by omega), wrap_small P3 (by omega) (by omega), wrap_small P4 (by omega) (by omega)]
  rw [wrap_small (P2 + P4 / 4294967296) (by omega) (by omega)]
  rw [low32 (P2 + P4 / 4294967296) (by omega) (by omega)]
  rw [wrap_small ((P2 + P4 / 4294967296) % 4294967296 + P3) (by omega) (by omega)]
  rw [wrap_small (P1 + (P2 + P4 / 4294967296) / 4294967296) (by omega) (by omega)]
  rw [wrap_small _ (by omega) (by omega)]
  omega

theorem lo_eq (z : Int) : IntKind.u64.wrap z = z % 18446744073709551616 := by rw [IntKind.wrap_u64]

/-- an int as a word -/
def asWord (a : Int) : Int := if a < 0 then a + 18446744073709551616 else a

/-- a product's upper half, of ints: the words' product, less what was too much -/
def upper (a b : Int) : Int := a * b / 18446744073709551616
/-- its lower half -/
def lower (a b : Int) : Int := a * b % 18446744073709551616

theorem full_bd {a b : Int} (ha : Fit a) (hb : Fit b) : -85070591730234615865843651857942052864 ≤ a * b ∧ a * b ≤ 85070591730234615865843651857942052864 := by
  obtain ⟨a0, a1⟩ := ha
  obtain ⟨b0, b1⟩ := hb
  have h1 := Int.natAbs_mul a b
  have h2 : a.natAbs ≤ 9223372036854775808 := by omega
  have h3 : b.natAbs ≤ 9223372036854775808 := by omega
  have h4 := Nat.mul_le_mul h2 h3
  omega

end Go.Proofs.Ytlefbdbafmmoiaa
