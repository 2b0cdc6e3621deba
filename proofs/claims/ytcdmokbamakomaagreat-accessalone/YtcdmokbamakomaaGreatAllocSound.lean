/- The statements' own helper: an object lives by a handle, with a head of its own, and noughts. -/
import Derived.Test.YtcdmokbamakomaaGreatAllocMake
namespace Go.Proofs.YtcdmokbamakomaaGreat
open Go.RowKit

theorem packS_is (a G : Nat) (ha : a < 1048576) (hG : G ≤ 65535) : packS 1 a G 0 = 1 + a * 8 + G * 8388608 := by
  unfold packS
  rw [cut_id 1 3 (by omega) (by decide), cut_id a 20 (by omega) (by simp; omega), cut_id G 16 (by omega) (by simp; omega), cut_id 0 22 (by omega) (by decide)]
  omega
theorem packH_is (x G : Nat) (hx : x ≤ 65535) (hG : G ≤ 65535) : packH x G = x + G * 65536 := by
  unfold packH
  rw [cut_id x 16 (by omega) (by simp; omega), cut_id G 16 (by omega) (by simp; omega)]
theorem packOw_is (kd Z x G : Nat) (own : Bool) (hk : kd ≤ 3) (hZ : Z ≤ 65535) (hx : x ≤ 65535) (hG : G ≤ 65535) : packOw kd Z x G own = kd + Z * 4 + x * 262144 + G * 17179869184 + (if own then 1125899906842624 else 0) := by
  unfold packOw packO
  rw [cut_id kd 2 (by omega) (by simp; omega), cut_id Z 16 (by omega) (by simp; omega), cut_id x 16 (by omega) (by simp; omega), cut_id G 16 (by omega) (by simp; omega)]
  cases own <;> simp

theorem slot_dec (a G : Nat) (ha : a < 1048576) (hG : G ≤ 65535) (w : World) :
    Calls Tryz.prog 22 #[.int .u64 (packS 1 a G 0)] w fun e w' => e = .returned (.agg #[.int .i64 1, .int .i64 a, .int .i64 G, .int .i64 0]) ∧ Below w.heap.size w w' := by
  rw [packS_is a G ha hG]
  have k := slot_any (1 + a * 8 + G * 8388608) w (by omega) (by omega)
  rwa [show ((1 : Int) + a * 8 + G * 8388608) % 8 = 1 by omega, show ((1 : Int) + a * 8 + G * 8388608) / 8 % 1048576 = a by omega, show ((1 : Int) + a * 8 + G * 8388608) / 8388608 % 65536 = G by omega, show ((1 : Int) + a * 8 + G * 8388608) / 549755813888 % 4194304 = 0 by omega] at k
theorem handle_dec (x G : Nat) (hx : x ≤ 65535) (h1 : 1 ≤ G) (hG : G ≤ 65535) (w : World) :
    Calls Tryz.prog 32 #[.int .u64 (packH x G)] w fun e w' => e = .returned (.tuple #[.agg #[.int .i64 x, .int .i64 G], .bool true]) ∧ Below w.heap.size w w' := by
  rw [packH_is x G hx hG]
  have k := handle_yes (x + G * 65536) w (by omega) (by omega)
  rwa [show ((x : Int) + G * 65536) % 65536 = x by omega, show ((x : Int) + G * 65536) / 65536 = G by omega] at k
theorem head_dec (kd Z x G : Nat) (own : Bool) (hk : kd ≤ 3) (hZ : Z ≤ 65535) (hx : x ≤ 65535) (hG : G ≤ 65535) (w : World) :
    Calls Tryz.prog 93 #[.int .u64 (packOw kd Z x G own)] w fun e w' => e = .returned (.agg #[.int .i64 kd, .int .i64 Z, .int .i64 x, .int .i64 G, .bool own]) ∧ Below w.heap.size w w' := by
  rw [packOw_is kd Z x G own hk hZ hx hG]
  cases own
  · have k := head_any (kd + Z * 4 + x * 262144 + G * 17179869184 + 0) w (by omega) (by omega)
    rw [show ((kd : Int) + Z * 4 + x * 262144 + G * 17179869184 + 0) % 4 = kd by omega, show ((kd : Int) + Z * 4 + x * 262144 + G * 17179869184 + 0) / 4 % 65536 = Z by omega, show ((kd : Int) + Z * 4 + x * 262144 + G * 17179869184 + 0) / 262144 % 65536 = x by omega, show ((kd : Int) + Z * 4 + x * 262144 + G * 17179869184 + 0) / 17179869184 % 65536 = G by omega, decide_eq_false (show ¬ ((kd : Int) + Z * 4 + x * 262144 + G * 17179869184 + 0) / 1125899906842624 % 2 = 1 by omega)] at k
    simpa using k
  · have k := head_any (kd + Z * 4 + x * 262144 + G * 17179869184 + 1125899906842624) w (by omega) (by omega)
    rw [show ((kd : Int) + Z * 4 + x * 262144 + G * 17179869184 + 1125899906842624) % 4 = kd by omega, show ((kd : Int) + Z * 4 + x * 262144 + G * 17179869184 + 1125899906842624) / 4 % 65536 = Z by omega, show ((kd : Int) + Z * 4 + x * 262144 + G * 17179869184 + 1125899906842624) / 262144 % 65536 = x by omega, show ((kd : Int) + Z * 4 + x * 262144 + G * 17179869184 + 1125899906842624) / 17179869184 % 65536 = G by omega, decide_eq_true (show ((kd : Int) + Z * 4 + x * 262144 + G * 17179869184 + 1125899906842624) / 1125899906842624 % 2 = 1 by omega)] at k
    simpa using k

/-- an object lives in an arena's memory -/
structure Lives (t n k m : Nat) (s : Mm) (σ : Nat) (x G a i u : Nat) (own : Bool) (Z κ : Nat) (C : Ck) : Prop where
  z1 : 1 ≤ Z
  z2 : Z ≤ 16
  kz : classOf Z = κ
  k4 : κ < 4
  x1 : x < n
  g1 : 1 ≤ G
  g2 : G ≤ 65535
  sw : s.wd (6 + t + x * 2) = packS 1 a G 0
  hw : s.wd a = packOw 2 Z x G own
  nt : ∀ j, 1 ≤ j → j ≤ Z → s.wd (a + j) = 0
  ae : a = base t n k m i + u
  ik : i < k
  uk : u + room κ ≤ m
  ok : C.ok σ
  cw : s.wd (6 + t + n * 2 + i * 3) = C.w
  c1 : C.st = 1
  c2 : C.cl = κ

theorem size_room {Z κ : Nat} (h1 : 1 ≤ Z) (hK : classOf Z = κ) : Z + 1 ≤ room κ := by
  have : (Z ≤ 2 ∧ κ = 0) ∨ (Z ≤ 4 ∧ κ = 1) ∨ (Z ≤ 8 ∧ κ = 2) ∨ (Z ≤ 16 ∧ κ = 3) := by
    unfold classOf at hK
    repeat' split at hK
    all_goals omega
  rcases this with ⟨h, rfl⟩ | ⟨h, rfl⟩ | ⟨h, rfl⟩ | ⟨h, rfl⟩ <;> simp only [room] <;> omega

end Go.Proofs.YtcdmokbamakomaaGreat
