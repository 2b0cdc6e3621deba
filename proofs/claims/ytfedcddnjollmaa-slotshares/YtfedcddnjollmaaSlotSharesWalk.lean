/- SlotShares answers true for every number and every slice of ints, and leaves what was in memory. -/
import Derived.Test.YtfedcddnjollmaaSlotStart
import Derived.Test.YtfedcddnjollmaaArgs
import Derived.Deep.DeepCutAuto
import Derived.Deep.CutBlock
namespace Go.Proofs.Ytfedcddnjollmaa
open Go.RowKit

theorem rem3 (k : Nat) : ∃ K : Nat, (k : Int).tmod 3 = (K : Int) ∧ K < 3 :=
  ⟨k % 3, by rw [Int.tmod_eq_emod_of_nonneg (by omega)]; omega, by omega⟩

theorem pick3 (x : Int) : ∃ K : Nat, (x.tmod 3 + 3).tmod 3 = (K : Int) ∧ (x.tmod 3 + 3) % 3 = (K : Int) ∧ K < 3 ∧ -3 < x.tmod 3 ∧ x.tmod 3 < 3 := by
  have h1 : -3 < x.tmod 3 := Int.lt_tmod_of_pos x (by decide)
  have h3 : x.tmod 3 < 3 := Int.tmod_lt_of_pos x (by decide)
  have h4 := Int.emod_nonneg (x.tmod 3 + 3) (b := 3) (by omega)
  have h5 := Int.emod_lt_of_pos (x.tmod 3 + 3) (b := 3) (by omega)
  exact ⟨((x.tmod 3 + 3) % 3).toNat, by rw [Int.tmod_eq_emod_of_nonneg (by omega)]; omega, by omega, by omega, h1, h3⟩

theorem noGone0 (β : Nat → Nat) : NoGone (fun j => .take (β j) .idle) := fun j b v _ h => by cases h

set_option maxRecDepth 20000 in
set_option maxHeartbeats 8000000 in
theorem slotShares_any (slots : Int) (ao : Option Addr) (N cap : Nat) (z : Nat → Int) (w : World) (hr : IntsAt .i64 w ao N z) (hN : N ≤ 9223372036854775807) :
    Calls Try.prog 4 #[.int .i64 slots, .slice ao N cap] w fun e w' => e = .returned (.bool true) ∧ Below w.heap.size w w' := by
  have HR : Hid (IntsAt .i64 w ao N z) := hr
  clear hr
  obtain ⟨n, hn, hn1, hn4⟩ := lowAt slots 3 2 1 (by decide) (by decide)
  have hn' : (1 : Int) + bits .and .i64 slots 3 = (n : Int) := hn
  clear hn
  have AR := fun w => arena06 (t := 4) (n := n) (by omega) (by omega) w
  go_enter Try.func4, Try.ntmps4
  go_wp2_with (first
    | (go_at_call 8; refine (AR _).mono ?_; rintro e w1 ⟨L, s, rfl, m1, p1, hs1, b1, f1⟩)
    | (go_at_call 9; refine (awake06_any _).mono ?_; rintro e w2 ⟨rfl, b2⟩))
  obtain ⟨fd, fa⟩ := Field.first m1 p1 b1 f1
  have hn4' : n ≤ 4 := by omega
  have z2 : w1.heap.size < w2.heap.size := by have := b2.size; rw [Go.Deep.nblk_alloc] at this; exact this
  have z1 := b1.size
  have hL2 : Hid (∀ k, L.has k → k < w2.heap.size) := fun k hk => by have := m1.lt k hk; omega
  have HE : Hid (w1.heap.size < w2.heap.size) := z2
  have CP : Hid (CrewApart w L w1.heap.size w2.heap.size) := ⟨fa, fun hh => by have := m1.lt _ hh; omega, by omega, by omega⟩
  have S0 : Hid (Start w (w2.alloc (.cells #[.pointer none, .pointer none, .int .i64 0, .pointer none, .pointer none, .int .i64 0, .pointer none, .pointer none, .int .i64 0] 40)) L w1.heap.size w2.heap.size n s (1 + 2 * n) 0 (link0 n) (upFrom n n) 0 (fun _ => 0)) :=
    ⟨(fd.grown b2).alloc _, ⟨_, Go.Deep.blk_alloc_new _ _, rfl, fun j hj => by omega⟩, fun j hj => by omega, fun j hj => by omega, fun i j hi => by omega⟩
  clear fd fa m1 p1 b1 f1 b2 AR hs1 hn4 z1 z2 hn'
  go_loopw [9] (fun i wr => ∃ (k : Nat) (β : Nat → Nat), i = .int .i64 k ∧ k ≤ 3 ∧ Start w wr L w1.heap.size w2.heap.size n s (1 + 2 * n) 0 (link0 n) (upFrom n n) k β) (fun i _ => 3 - (intOf i).toNat)
  case atStart => exact ⟨0, _, rfl, by omega, S0.out⟩
  case round =>
    clear S0
    obtain ⟨k, β, rfl, hk3, S⟩ := hrel
    by_cases hk : k < 3
    · have hk' : (k : Int) < 3 := by omega
      obtain ⟨⟨u0, q0⟩, qf⟩ := S.cell (k * 3) (by omega)
      obtain ⟨⟨u1, q1⟩, -⟩ := S.cell (k * 3 + 1) (by omega)
      obtain ⟨⟨u2, q2⟩, -⟩ := S.cell (k * 3 + 2) (by omega)
      have hne : Hid (wr.heap.size ≠ w2.heap.size) := by unfold Hid; have := S.lt; omega
      have S1 : Hid _ := S.next CP.out hk
      have a0 := fun O => alloc_cell q0 O
      have a1 := fun O => alloc_cell q1 O
      have a2 := fun O => alloc_cell q2 O
      clear S q0 q1 q2
      go_wp2
      go_roundw
      case rel => exact ⟨k + 1, _, by go_num, by omega, S1.out⟩
      case measure => simp [intOf]; omega
    · have hk' : ¬ (k : Int) < 3 := by omega
      obtain rfl : k = 3 := by omega
      obtain ⟨A0, C0⟩ := S.all CP.out HE.out hL2.out (upFrom_len n n)
      have A1 : Hid (CrewAt w wr L w1.heap.size w2.heap.size n s (1 + 2 * n) 0 (link0 n) (upFrom n n) (fun j => .take (β j) .idle) ∧ Crew n 0 (link0 n) (upFrom n n) (fun j => .take (β j) .idle)) := ⟨A0, C0⟩
      clear S A0 C0 hk hk3 hL2 HE
      go_wp2
      clear hk'
      go_loopw [10] (fun i wr => ∃ (k : Nat) (s' : Mm) (σ c : Nat) (lk : Nat → Nat) (F : List Nat) (θ : Nat → Th), i = .int .i64 k ∧ k ≤ 361 ∧ σ ≤ 1 + 2 * n + k ∧ NoGone θ ∧ Crew n c lk F θ ∧ CrewAt w wr L w1.heap.size w2.heap.size n s' σ c lk F θ) (fun i _ => 400 - (intOf i).toNat)
      case atStart => exact ⟨0, s, 1 + 2 * n, 0, link0 n, upFrom n n, (fun j => .take (β j) .idle), rfl, by omega, by omega, noGone0 β, A1.out.2, A1.out.1⟩
      case round =>
        clear A1
        obtain ⟨k, s, σ, c, lk, F, θ, rfl, hk361, hσ, ng, C0, A0⟩ := hrel
        have A : Hid (CrewAt w wr L w1.heap.size w2.heap.size n s σ c lk F θ) := A0
        have C : Hid (Crew n c lk F θ) := C0
        have NG : Hid (NoGone θ) := ng
        have y0 := A0.f.v.c0
        have y1 := A0.f.v.c1
        have y2 := A0.f.v.c2
        have y3 := A0.f.v.c3
        have y4 := A0.f.v.c4
        have y5 := A0.f.v.c5
        have y6 := A0.f.v.c6
        have y7 := A0.f.v.c7
        have y8 := A0.f.v.c8
        have x0 : wr.cell? ⟨w2.heap.size, 0, none⟩ = some (θ 0).v0 := A0.a.c0 (j := 0) (by omega)
        have x1 : wr.cell? ⟨w2.heap.size, 1, none⟩ = some (θ 0).v1 := A0.a.c1 (j := 0) (by omega)
        have x2 : wr.cell? ⟨w2.heap.size, 2, none⟩ = some (.int .i64 (θ 0).have) := A0.a.c2 (j := 0) (by omega)
        have x3 : wr.cell? ⟨w2.heap.size, 3, none⟩ = some (θ 1).v0 := A0.a.c0 (j := 1) (by omega)
        have x4 : wr.cell? ⟨w2.heap.size, 4, none⟩ = some (θ 1).v1 := A0.a.c1 (j := 1) (by omega)
        have x5 : wr.cell? ⟨w2.heap.size, 5, none⟩ = some (.int .i64 (θ 1).have) := A0.a.c2 (j := 1) (by omega)
        have x6 : wr.cell? ⟨w2.heap.size, 6, none⟩ = some (θ 2).v0 := A0.a.c0 (j := 2) (by omega)
        have x7 : wr.cell? ⟨w2.heap.size, 7, none⟩ = some (θ 2).v1 := A0.a.c1 (j := 2) (by omega)
        have x8 : wr.cell? ⟨w2.heap.size, 8, none⟩ = some (.int .i64 (θ 2).have) := A0.a.c2 (j := 2) (by omega)
        have FR := free_any A0 CP.out C0 (by omega) (by omega)
        clear A0 C0 ng
        by_cases hov : N ≤ 9223372036854775747
        · have hov' : (N : Int) ≤ 9223372036854775747 := by omega
          by_cases hend : k < N + 60 ∧ (k ≤ 360 ∨ k < N ∧ k < 300)
          · obtain ⟨he1, he2⟩ := hend
            have he1' : (k : Int) < (N : Int) + 60 := by omega
            clear FR
            by_cases hA : k < N ∧ k < 300
            · obtain ⟨hkN, hk300⟩ := hA
              have hkN' : (k : Int) < (N : Int) := by omega
              have hk300' : (k : Int) < 300 := by omega
              obtain ⟨zb, zo, rfl, hz0⟩ := HR.out k hkN
              have hz := keep' A.out.f.b hz0
              clear hz0
              obtain ⟨K, hKt, hKe, hK0, hm1, hm2⟩ := pick3 (z k)
              have HK : Hid (K < 3) := hK0
              clear hK0
              have hK' : (K : Int) < 3 := by have := HK.out; omega
              have c0 := A.out.a.c0 HK.out
              have c1 := A.out.a.c1 HK.out
              have c2 := A.out.a.c2 HK.out
              have hX : Hid (w2.heap.size < wr.heap.size) := A.out.a.lt
              have hXE : Hid (w1.heap.size < wr.heap.size) := by unfold Hid; have := World.block_lt_of_cell? _ _ A.out.f.v.c0; simpa using this
              have hXL : Hid (∀ k, L.has k → k < wr.heap.size) := fun k hk => A.out.f.m.lt k hk
              have hXT : Hid (∀ j, j < 3 → (θ j).b < wr.heap.size) := fun j hj => Th.at_lt (A.out.th j hj)
              have hX0 : Hid (w.heap.size ≤ wr.heap.size) := A.out.f.b.size
              cases hθ0 : θ K with
              | gone b v => exact absurd hθ0 (NG.out K b v HK.out)
              | give b x γ =>
                have hθ : Hid (θ K = .give b x γ) := hθ0
                rw [hθ0] at c0 c1 c2
                have d0 : wr.cell? ⟨w2.heap.size, K * 3, none⟩ = some (.pointer none) := c0
                have d1 : wr.cell? ⟨w2.heap.size, K * 3 + 1, none⟩ = some (.pointer (some ⟨b, 0, none⟩)) := c1
                have d2 : wr.cell? ⟨w2.heap.size, K * 3 + 2, none⟩ = some (.int .i64 x) := c2
                have hbX : Hid (b < wr.heap.size) := by have := hXT.out K HK.out; rw [hθ0] at this; exact this
                clear c0 c1 c2 hθ0
                have A2 : Hid (CrewAt w (wr.alloc (.cells #[.pointer none, .pointer (some ⟨b, 0, none⟩), .int .i64 x] 39)) L w1.heap.size w2.heap.size n s σ c lk F θ) := A.out.grown (grow_alloc (Below.refl _ _) _)
                have kx : Hid (∀ w', Only (L.and b) (wr.alloc (.cells #[.pointer none, .pointer (some ⟨b, 0, none⟩), .int .i64 x] 39)) w' → w'.heap[wr.heap.size]? = some (.cells #[.pointer none, .pointer (some ⟨b, 0, none⟩), .int .i64 x] 39 (0, 0))) := fun w' o => (o.block _ (by rw [Go.Deep.nblk_alloc]; omega) (fun hh => hh.elim (fun h => by have := hXL.out _ h; omega) (fun h => by have := hbX.out; omega))).trans (Go.Deep.blk_alloc_new _ _)
                have v0 := fun O => alloc_cell y0 O
                have v1 := fun O => alloc_cell y1 O
                have v2 := fun O => alloc_cell y2 O
                have v3 := fun O => alloc_cell y3 O
                have v4 := fun O => alloc_cell y4 O
                have v5 := fun O => alloc_cell y5 O
                have v6 := fun O => alloc_cell y6 O
                have v7 := fun O => alloc_cell y7 O
                have v8 := fun O => alloc_cell y8 O
                clear x0 x1 x2 x3 x4 x5 x6 x7 x8 y0 y1 y2 y3 y4 y5 y6 y7 y8
                cases he : γ.ends c with
                | false =>
                  have hends : Hid (γ.ends c = false) := he
                  clear he
                  go_wp2_with (go_at_call 12; refine (A2.out.giveOn CP.out C.out HK.out hθ.out (by omega) hends.out).mono ?_; rintro e w3 ⟨rfl, s3, c3, lk3, F3, γ3, -, C3, A3, o3⟩; have kk := kx.out _ o3; have q0 := blk_cell (o := 0) kk rfl; have q1 := blk_cell (o := 1) kk rfl; have q2 := blk_cell (o := 2) kk rfl; have qf := blk_frozen kk; have r0 := A3.a.c0 HK.out; have r1 := A3.a.c1 HK.out; have r2 := A3.a.c2 HK.out; have rf := A3.a.fz; rw [upd_same] at r0 r1 r2; have s0 : w3.cell? ⟨w2.heap.size, K * 3, none⟩ = some (.pointer none) := r0; have s1 : w3.cell? ⟨w2.heap.size, K * 3 + 1, none⟩ = some (.pointer (some ⟨b, 0, none⟩)) := r1; have s2 : w3.cell? ⟨w2.heap.size, K * 3 + 2, none⟩ = some (.int .i64 x) := r2; clear r0 r1 r2)
                  have A9 := A3.again CP.out HK.out (v0 := .pointer none) (v1 := .pointer (some ⟨b, 0, none⟩)) (v2 := x) (by rw [upd_same]; rfl) (by rw [upd_same]; rfl) (by rw [upd_same]; rfl)
                  go_roundw
                  case rel => exact ⟨k + 1, s3, σ + 1, c3, lk3, F3, _, by go_num, by omega, by omega, NG.out.put K _ (fun _ _ h => by cases h), C3, A9⟩
                  case measure => simp [intOf]; omega
                | true =>
                  have hends : Hid (γ.ends c = true) := he
                  clear he
                  go_wp2_with (go_at_call 12; refine (A2.out.giveDone CP.out C.out HK.out hθ.out (by omega) hends.out).mono ?_; rintro e w3 ⟨rfl, s3, c3, lk3, F3, γ3, C3, A3, o3⟩; have kk := kx.out _ o3; have q0 := blk_cell (o := 0) kk rfl; have q1 := blk_cell (o := 1) kk rfl; have q2 := blk_cell (o := 2) kk rfl; have qf := blk_frozen kk; have r0 := A3.a.c0 HK.out; have r1 := A3.a.c1 HK.out; have r2 := A3.a.c2 HK.out; have rf := A3.a.fz; rw [upd_same] at r0 r1 r2; have s0 : w3.cell? ⟨w2.heap.size, K * 3, none⟩ = some (.pointer none) := r0; have s1 : w3.cell? ⟨w2.heap.size, K * 3 + 1, none⟩ = some (.pointer (some ⟨b, 0, none⟩)) := r1; have s2 : w3.cell? ⟨w2.heap.size, K * 3 + 2, none⟩ = some (.int .i64 x) := r2; clear r0 r1 r2; have t0 := fun O => alloc_cell s0 O; have t1 := fun O => alloc_cell s1 O; have t2 := fun O => alloc_cell s2 O; have tf := fun O => (A3.grown (grow_alloc (Below.refl _ _) O)).a.fz; have p0 := fun O => alloc_cell q0 O; have p1 := fun O => alloc_cell q1 O; have p2 := fun O => alloc_cell q2 O; have pf := fun O i => blk_frozen ((Go.Deep.blk_alloc_lt _ O _ (blk_lt kk)).trans kk) i; have hWX : ¬ wr.heap.size = w2.heap.size := by { have := hX.out; omega }; have hWX' : ¬ w2.heap.size = wr.heap.size := by { have := hX.out; omega })
                  have g4 : CrewAt w (w3.alloc (.cells #[.int .i64 0, .int .u64 0, .int .i64 0, .int .i64 0] 43)) L w1.heap.size w2.heap.size n s3 (σ + 1) _ _ _ _ := A3.grown (grow_alloc (Below.refl _ _) _)
                  have hW3 : wr.heap.size < w3.heap.size := blk_lt kk
                  have hTb : ∀ j, j < 3 → (upd θ K (.give b x γ3) j).b ≠ w3.heap.size := fun j hj => by have := Th.at_lt (A3.th j hj); omega
                  have hTx : ∀ j, j < 3 → (upd θ K (.give b x γ3) j).b ≠ wr.heap.size := fun j hj => by
                    by_cases e : j = K
                    · subst e; rw [upd_same]; show b ≠ wr.heap.size; have := hbX.out; omega
                    · rw [upd_other _ _ _ _ e]; have := hXT.out j hj; omega
                  have hLw : ¬ L.has wr.heap.size := fun h => by have := hXL.out _ h; omega
                  have hLn : ¬ L.has w3.heap.size := fun h => by have := hXL.out _ h; omega
                  have hEx : w1.heap.size ≠ wr.heap.size := by have := hXE.out; omega
                  have hNx : w3.heap.size ≠ wr.heap.size := by omega
                  have gg40 := g4.own (b := wr.heap.size) hX0.out hEx hLw (by have := hX.out; omega) hTx 0 (.pointer (some ⟨w3.heap.size, 0, none⟩))
                  have ggg401 := gg40.own (b := wr.heap.size) hX0.out hEx hLw (by have := hX.out; omega) hTx 1 (.pointer none)
                  have gggg4012 := ggg401.own (b := wr.heap.size) hX0.out hEx hLw (by have := hX.out; omega) hTx 2 (.int .i64 (-1))
                  have A9 := gggg4012.fresh CP.out HK.out (.take w3.heap.size .idle) ⟨_, ((((take0 w3).other hNx _ _).other hNx _ _).other hNx _ _)⟩ (by show w.heap.size ≤ w3.heap.size; have := hX0.out; omega) (by show w3.heap.size ≠ w1.heap.size; have := hXE.out; omega) (by show w3.heap.size ≠ w2.heap.size; have := hX.out; omega) hLn hTb (v0 := .pointer (some ⟨w3.heap.size, 0, none⟩)) (v1 := .pointer none) (v2 := -1) rfl rfl rfl
                  have C9 := C3 (.take w3.heap.size .idle) ⟨trivial, rfl⟩ rfl (fun _ h => h)
                  rw [upd_upd] at A9
                  go_roundw
                  case rel => exact ⟨k + 1, s3, σ + 1, c3, lk3, F3, _, by go_num, by omega, by omega, NG.out.put K _ (fun _ _ h => by cases h), C9, A9⟩
                  case measure => simp [intOf]; omega
              | take b τ =>
                have hθ : Hid (θ K = .take b τ) := hθ0
                rw [hθ0] at c0 c1 c2
                have d0 : wr.cell? ⟨w2.heap.size, K * 3, none⟩ = some (.pointer (some ⟨b, 0, none⟩)) := c0
                have d1 : wr.cell? ⟨w2.heap.size, K * 3 + 1, none⟩ = some (.pointer none) := c1
                have d2 : wr.cell? ⟨w2.heap.size, K * 3 + 2, none⟩ = some (.int .i64 (-1)) := c2
                have hbX : Hid (b < wr.heap.size) := by have := hXT.out K HK.out; rw [hθ0] at this; exact this
                have hτ : Hid (τ.over = false) := by have := C.out.ok K HK.out; rw [hθ0] at this; exact this.2
                clear c0 c1 c2 hθ0
                have A2 : Hid (CrewAt w (wr.alloc (.cells #[.pointer (some ⟨b, 0, none⟩), .pointer none, .int .i64 (-1)] 39)) L w1.heap.size w2.heap.size n s σ c lk F θ) := A.out.grown (grow_alloc (Below.refl _ _) _)
                have kx : Hid (∀ w', Only (L.and b) (wr.alloc (.cells #[.pointer (some ⟨b, 0, none⟩), .pointer none, .int .i64 (-1)] 39)) w' → w'.heap[wr.heap.size]? = some (.cells #[.pointer (some ⟨b, 0, none⟩), .pointer none, .int .i64 (-1)] 39 (0, 0))) := fun w' o => (o.block _ (by rw [Go.Deep.nblk_alloc]; omega) (fun hh => hh.elim (fun h => by have := hXL.out _ h; omega) (fun h => by have := hbX.out; omega))).trans (Go.Deep.blk_alloc_new _ _)
                have v0 := fun O => alloc_cell y0 O
                have v1 := fun O => alloc_cell y1 O
                have v2 := fun O => alloc_cell y2 O
                have v3 := fun O => alloc_cell y3 O
                have v4 := fun O => alloc_cell y4 O
                have v5 := fun O => alloc_cell y5 O
                have v6 := fun O => alloc_cell y6 O
                have v7 := fun O => alloc_cell y7 O
                have v8 := fun O => alloc_cell y8 O
                clear x0 x1 x2 x3 x4 x5 x6 x7 x8 y0 y1 y2 y3 y4 y5 y6 y7 y8
                cases he : τ.ends c F with
                | false =>
                  have hends : Hid (τ.ends c F = false) := he
                  clear he
                  go_wp2_with (go_at_call 13; refine (A2.out.takeOn CP.out C.out HK.out hθ.out (by omega) hends.out).mono ?_; rintro e w3 ⟨rfl, s3, c3, F3, τ3, C3, A3, o3⟩; have kk := kx.out _ o3; have q0 := blk_cell (o := 0) kk rfl; have q1 := blk_cell (o := 1) kk rfl; have q2 := blk_cell (o := 2) kk rfl; have qf := blk_frozen kk; have r0 := A3.a.c0 HK.out; have r1 := A3.a.c1 HK.out; have r2 := A3.a.c2 HK.out; have rf := A3.a.fz; rw [upd_same] at r0 r1 r2; have s0 : w3.cell? ⟨w2.heap.size, K * 3, none⟩ = some (.pointer (some ⟨b, 0, none⟩)) := r0; have s1 : w3.cell? ⟨w2.heap.size, K * 3 + 1, none⟩ = some (.pointer none) := r1; have s2 : w3.cell? ⟨w2.heap.size, K * 3 + 2, none⟩ = some (.int .i64 (-1)) := r2; clear r0 r1 r2)
                  have A9 := A3.again CP.out HK.out (v0 := .pointer (some ⟨b, 0, none⟩)) (v1 := .pointer none) (v2 := -1) (by rw [upd_same]; rfl) (by rw [upd_same]; rfl) (by rw [upd_same]; rfl)
                  go_roundw
                  case rel => exact ⟨k + 1, s3, σ + 1, c3, lk, F3, _, by go_num, by omega, by omega, NG.out.put K _ (fun _ _ h => by cases h), C3, A9⟩
                  case measure => simp [intOf]; omega
                | true =>
                  cases τ with
                  | saw _ _ => cases he
                  | won _ => cases he
                  | none => cases he
                  | idle =>
                    have hF : Hid (F = []) := by unfold Hid; simpa [Tk.ends] using he
                    clear he
                    go_wp2_with (first
                      | (go_at_call 13; refine (A2.out.takeNone CP.out C.out HK.out hθ.out (by omega) hF.out).mono ?_; rintro e w3 ⟨rfl, s3, C3, A3, o3⟩; have kk := kx.out _ o3; have q0 := blk_cell (o := 0) kk rfl; have q1 := blk_cell (o := 1) kk rfl; have q2 := blk_cell (o := 2) kk rfl; have qf := blk_frozen kk; have r0 := A3.a.c0 HK.out; have r1 := A3.a.c1 HK.out; have r2 := A3.a.c2 HK.out; have rf := A3.a.fz; rw [upd_same] at r0 r1 r2; have s0 : w3.cell? ⟨w2.heap.size, K * 3, none⟩ = some (.pointer (some ⟨b, 0, none⟩)) := r0; have s1 : w3.cell? ⟨w2.heap.size, K * 3 + 1, none⟩ = some (.pointer none) := r1; have s2 : w3.cell? ⟨w2.heap.size, K * 3 + 2, none⟩ = some (.int .i64 (-1)) := r2; clear r0 r1 r2; have t0 := fun O => alloc_cell s0 O; have t1 := fun O => alloc_cell s1 O; have t2 := fun O => alloc_cell s2 O; have tf := fun O => (A3.grown (grow_alloc (Below.refl _ _) O)).a.fz; have p0 := fun O => alloc_cell q0 O; have p1 := fun O => alloc_cell q1 O; have p2 := fun O => alloc_cell q2 O; have pf := fun O i => blk_frozen ((Go.Deep.blk_alloc_lt _ O _ (blk_lt kk)).trans kk) i; have hWX : ¬ wr.heap.size = w2.heap.size := by { have := hX.out; omega }; have hWX' : ¬ w2.heap.size = wr.heap.size := by { have := hX.out; omega }; have i3 := A3.th K HK.out; rw [upd_same] at i3; obtain ⟨cs3, i3⟩ := i3)
                      | (go_at_call 14; refine (slot_none i3 rfl).mono ?_; rintro e w4 ⟨rfl, rfl⟩))
                    have g4 : CrewAt w (w4.alloc (.cells #[.int .i64 0, .int .u64 0, .int .i64 0, .int .i64 0] 43)) L w1.heap.size w2.heap.size n s3 (σ + 1) _ _ _ _ := A3.grown (grow_alloc (Below.refl _ _) _)
                    have hW3 : wr.heap.size < w4.heap.size := blk_lt kk
                    have hTb : ∀ j, j < 3 → (upd θ K (.take b .none) j).b ≠ w4.heap.size := fun j hj => by have := Th.at_lt (A3.th j hj); omega
                    have hTx : ∀ j, j < 3 → (upd θ K (.take b .none) j).b ≠ wr.heap.size := fun j hj => by
                      by_cases e : j = K
                      · subst e; rw [upd_same]; show b ≠ wr.heap.size; have := hbX.out; omega
                      · rw [upd_other _ _ _ _ e]; have := hXT.out j hj; omega
                    have hLw : ¬ L.has wr.heap.size := fun h => by have := hXL.out _ h; omega
                    have hLn : ¬ L.has w4.heap.size := fun h => by have := hXL.out _ h; omega
                    have hEx : w1.heap.size ≠ wr.heap.size := by have := hXE.out; omega
                    have hNx : w4.heap.size ≠ wr.heap.size := by omega
                    have gg40 := g4.own (b := wr.heap.size) hX0.out hEx hLw (by have := hX.out; omega) hTx 0 (.pointer (some ⟨w4.heap.size, 0, none⟩))
                    have A9 := gg40.fresh CP.out HK.out (.take w4.heap.size .idle) ⟨_, ((take0 w4).other hNx _ _)⟩ (by show w.heap.size ≤ w4.heap.size; have := hX0.out; omega) (by show w4.heap.size ≠ w1.heap.size; have := hXE.out; omega) (by show w4.heap.size ≠ w2.heap.size; have := hX.out; omega) hLn hTb (v0 := .pointer (some ⟨w4.heap.size, 0, none⟩)) (v1 := .pointer none) (v2 := -1) rfl rfl rfl
                    have C9 := C3 w4.heap.size
                    rw [upd_upd] at A9
                    go_roundw
                    case rel => exact ⟨k + 1, s3, σ + 1, c, lk, F, _, by go_num, by omega, by omega, NG.out.put K _ (fun _ _ h => by cases h), C9, A9⟩
                    case measure => simp [intOf]; omega
                  | lnk x c00 q =>
                    obtain rfl : c00 = c := by simpa [Tk.ends] using he
                    clear he
                    go_wp2_with (first
                      | (go_at_call 13; refine (A2.out.takeWon CP.out C.out HK.out hθ.out (by omega)).mono ?_; rintro e w3 ⟨rfl, s3, c3, F3, C3, hno, A3, o3⟩; have kk := kx.out _ o3; have q0 := blk_cell (o := 0) kk rfl; have q1 := blk_cell (o := 1) kk rfl; have q2 := blk_cell (o := 2) kk rfl; have qf := blk_frozen kk; have r0 := A3.a.c0 HK.out; have r1 := A3.a.c1 HK.out; have r2 := A3.a.c2 HK.out; have rf := A3.a.fz; rw [upd_same] at r0 r1 r2; have s0 : w3.cell? ⟨w2.heap.size, K * 3, none⟩ = some (.pointer (some ⟨b, 0, none⟩)) := r0; have s1 : w3.cell? ⟨w2.heap.size, K * 3 + 1, none⟩ = some (.pointer none) := r1; have s2 : w3.cell? ⟨w2.heap.size, K * 3 + 2, none⟩ = some (.int .i64 (-1)) := r2; clear r0 r1 r2; have i3 := A3.th K HK.out; rw [upd_same] at i3; obtain ⟨cs3, i3⟩ := i3)
                      | (go_at_call 14; refine (slot_won i3 x rfl).mono ?_; rintro e w4 ⟨rfl, rfl⟩))
                    have HV : Hid (∀ j, j < 3 → ∃ h : Int, w4.cell? ⟨w2.heap.size, j * 3 + 2, none⟩ = some (.int .i64 h) ∧ ¬ h = (x : Int)) := fun j hj => by
                      refine ⟨_, A3.a.c2 hj, ?_⟩
                      by_cases e : j = K
                      · subst e; rw [upd_same]; show ¬ (-1 : Int) = x; omega
                      · rw [upd_other _ _ _ _ e]; exact have_ne (hno j hj) (fun b v => NG.out j b v hj)
                    have A3' : Hid (CrewAt w w4 L w1.heap.size w2.heap.size n s3 (σ + 1) c3 lk F3 (upd θ K (.take b (.won x)))) := A3
                    have C3' : Hid (∀ b2, Crew n c3 lk F3 (upd θ K (.give b2 x .idle))) := C3
                    have kk' : Hid (w4.heap[wr.heap.size]? = some (.cells #[.pointer (some ⟨b, 0, none⟩), .pointer none, .int .i64 (-1)] 39 (0, 0))) := kk
                    have hrr : Hid (∀ O, ((w4.alloc O).cell? ⟨w2.heap.size, K * 3, none⟩ = some (.pointer (some ⟨b, 0, none⟩)) ∧ (w4.alloc O).cell? ⟨w2.heap.size, K * 3 + 1, none⟩ = some (.pointer none) ∧ (w4.alloc O).cell? ⟨w2.heap.size, K * 3 + 2, none⟩ = some (.int .i64 (-1)))) := fun O => ⟨alloc_cell s0 O, alloc_cell s1 O, alloc_cell s2 O⟩
                    clear A3 C3 kk q0 q1 q2 qf rf s0 s1 s2 i3 hno o3 d0 d1 d2 v0 v1 v2 v3 v4 v5 v6 v7 v8 A A2 kx
                    obtain ⟨X, hXX⟩ : ∃ X, wr.heap.size = X := ⟨_, rfl⟩
                    rw [hXX] at hX hXE hXL hXT hX0 hbX kk' ⊢
                    clear hXX
                    go_loopw [15] (fun i wq => ∃ q : Nat, i = .int .i64 q ∧ q ≤ 3 ∧ wq = w4) (fun i _ => 3 - (intOf i).toNat)
                    case atStart => exact ⟨0, rfl, by omega, rfl⟩
                    case round =>
                      obtain ⟨q, rfl, hq3, hw4⟩ := hrel
                      subst hw4
                      by_cases hq : q < 3
                      · have hq' : (q : Int) < 3 := by omega
                        obtain ⟨h, hh, hne⟩ := HV.out q hq
                        go_wp2
                        go_roundw
                        case rel => exact ⟨q + 1, by go_num, by omega, by trivial⟩
                        case measure => simp [intOf]; omega
                      · have hq' : ¬ (q : Int) < 3 := by omega
                        obtain rfl : q = 3 := by omega
                        clear hq hq3
                        have kk := kk'.out
                        have A3 := A3'.out
                        have t0 := fun O => (hrr.out O).1
                        have t1 := fun O => (hrr.out O).2.1
                        have t2 := fun O => (hrr.out O).2.2
                        have tf := fun O => (A3'.out.grown (grow_alloc (Below.refl _ _) O)).a.fz
                        have p0 := fun O => alloc_cell (blk_cell (o := 0) kk'.out rfl) O
                        have p1 := fun O => alloc_cell (blk_cell (o := 1) kk'.out rfl) O
                        have p2 := fun O => alloc_cell (blk_cell (o := 2) kk'.out rfl) O
                        have pf := fun O i => blk_frozen ((Go.Deep.blk_alloc_lt _ O _ (blk_lt kk'.out)).trans kk'.out) i
                        have hWX : ¬ X = w2.heap.size := by have := hX.out; omega
                        have hWX' : ¬ w2.heap.size = X := by have := hX.out; omega
                        go_wp2_with (go_at_call 15; refine (newGive_any x _).mono ?_; rintro e w5 ⟨rfl, rfl⟩)
                        have g4 : CrewAt w (wr.alloc (.cells #[.int .i64 0, .int .i64 x, .int .u64 0] 65)) L w1.heap.size w2.heap.size n s3 (σ + 1) _ _ _ _ := A3.grown (grow_alloc (Below.refl _ _) _)
                        have hW3 : X < wr.heap.size := blk_lt kk
                        have hTb : ∀ j, j < 3 → (upd θ K (.take b (.won x)) j).b ≠ wr.heap.size := fun j hj => by have := Th.at_lt (A3.th j hj); omega
                        have hTx : ∀ j, j < 3 → (upd θ K (.take b (.won x)) j).b ≠ X := fun j hj => by
                          by_cases e : j = K
                          · subst e; rw [upd_same]; show b ≠ X; have := hbX.out; omega
                          · rw [upd_other _ _ _ _ e]; have := hXT.out j hj; omega
                        have hLw : ¬ L.has X := fun h => by have := hXL.out _ h; omega
                        have hLn : ¬ L.has wr.heap.size := fun h => by have := hXL.out _ h; omega
                        have hEx : w1.heap.size ≠ X := by have := hXE.out; omega
                        have hNx : wr.heap.size ≠ X := by omega
                        have gg40 := g4.own (b := X) hX0.out hEx hLw (by have := hX.out; omega) hTx 0 (.pointer none)
                        have ggg401 := gg40.own (b := X) hX0.out hEx hLw (by have := hX.out; omega) hTx 1 (.pointer (some ⟨wr.heap.size, 0, none⟩))
                        have gggg4012 := ggg401.own (b := X) hX0.out hEx hLw (by have := hX.out; omega) hTx 2 (.int .i64 (x))
                        have A9 := gggg4012.fresh CP.out HK.out (.give wr.heap.size x .idle) ⟨_, ((((give0 wr x).other hNx _ _).other hNx _ _).other hNx _ _)⟩ (by show w.heap.size ≤ wr.heap.size; have := hX0.out; omega) (by show wr.heap.size ≠ w1.heap.size; have := hXE.out; omega) (by show wr.heap.size ≠ w2.heap.size; have := hX.out; omega) hLn hTb (v0 := .pointer none) (v1 := .pointer (some ⟨wr.heap.size, 0, none⟩)) (v2 := x) rfl rfl rfl
                        have C9 := C3'.out wr.heap.size
                        rw [upd_upd] at A9
                        go_roundw
                        case rel => exact ⟨k + 1, s3, σ + 1, c3, lk, F3, _, by go_num, by omega, by omega, NG.out.put K _ (fun _ _ h => by cases h), C9, A9⟩
                        case measure => simp [intOf]; omega
            · have hk360 : ¬ (360 : Int) < (k : Int) := by omega
              obtain ⟨K, hKt, hK0⟩ := rem3 k
              have HK : Hid (K < 3) := hK0
              clear hK0
              by_cases hkN : k < N
              · have hkN' : (k : Int) < (N : Int) := by omega
                have hk300' : ¬ (k : Int) < 300 := by omega
                clear hA
                have hK' : (K : Int) < 3 := by have := HK.out; omega
                have c0 := A.out.a.c0 HK.out
                have c1 := A.out.a.c1 HK.out
                have c2 := A.out.a.c2 HK.out
                have hX : Hid (w2.heap.size < wr.heap.size) := A.out.a.lt
                have hXE : Hid (w1.heap.size < wr.heap.size) := by unfold Hid; have := World.block_lt_of_cell? _ _ A.out.f.v.c0; simpa using this
                have hXL : Hid (∀ k, L.has k → k < wr.heap.size) := fun k hk => A.out.f.m.lt k hk
                have hXT : Hid (∀ j, j < 3 → (θ j).b < wr.heap.size) := fun j hj => Th.at_lt (A.out.th j hj)
                have hX0 : Hid (w.heap.size ≤ wr.heap.size) := A.out.f.b.size
                cases hθ0 : θ K with
                | gone b v => exact absurd hθ0 (NG.out K b v HK.out)
                | give b x γ =>
                  have hθ : Hid (θ K = .give b x γ) := hθ0
                  rw [hθ0] at c0 c1 c2
                  have d0 : wr.cell? ⟨w2.heap.size, K * 3, none⟩ = some (.pointer none) := c0
                  have d1 : wr.cell? ⟨w2.heap.size, K * 3 + 1, none⟩ = some (.pointer (some ⟨b, 0, none⟩)) := c1
                  have d2 : wr.cell? ⟨w2.heap.size, K * 3 + 2, none⟩ = some (.int .i64 x) := c2
                  have hbX : Hid (b < wr.heap.size) := by have := hXT.out K HK.out; rw [hθ0] at this; exact this
                  clear c0 c1 c2 hθ0
                  have A2 : Hid (CrewAt w (wr.alloc (.cells #[.pointer none, .pointer (some ⟨b, 0, none⟩), .int .i64 x] 39)) L w1.heap.size w2.heap.size n s σ c lk F θ) := A.out.grown (grow_alloc (Below.refl _ _) _)
                  have kx : Hid (∀ w', Only (L.and b) (wr.alloc (.cells #[.pointer none, .pointer (some ⟨b, 0, none⟩), .int .i64 x] 39)) w' → w'.heap[wr.heap.size]? = some (.cells #[.pointer none, .pointer (some ⟨b, 0, none⟩), .int .i64 x] 39 (0, 0))) := fun w' o => (o.block _ (by rw [Go.Deep.nblk_alloc]; omega) (fun hh => hh.elim (fun h => by have := hXL.out _ h; omega) (fun h => by have := hbX.out; omega))).trans (Go.Deep.blk_alloc_new _ _)
                  have v0 := fun O => alloc_cell y0 O
                  have v1 := fun O => alloc_cell y1 O
                  have v2 := fun O => alloc_cell y2 O
                  have v3 := fun O => alloc_cell y3 O
                  have v4 := fun O => alloc_cell y4 O
                  have v5 := fun O => alloc_cell y5 O
                  have v6 := fun O => alloc_cell y6 O
                  have v7 := fun O => alloc_cell y7 O
                  have v8 := fun O => alloc_cell y8 O
                  clear x0 x1 x2 x3 x4 x5 x6 x7 x8 y0 y1 y2 y3 y4 y5 y6 y7 y8
                  cases he : γ.ends c with
                  | false =>
                    have hends : Hid (γ.ends c = false) := he
                    clear he
                    go_wp2_with (go_at_call 12; refine (A2.out.giveOn CP.out C.out HK.out hθ.out (by omega) hends.out).mono ?_; rintro e w3 ⟨rfl, s3, c3, lk3, F3, γ3, -, C3, A3, o3⟩; have kk := kx.out _ o3; have q0 := blk_cell (o := 0) kk rfl; have q1 := blk_cell (o := 1) kk rfl; have q2 := blk_cell (o := 2) kk rfl; have qf := blk_frozen kk; have r0 := A3.a.c0 HK.out; have r1 := A3.a.c1 HK.out; have r2 := A3.a.c2 HK.out; have rf := A3.a.fz; rw [upd_same] at r0 r1 r2; have s0 : w3.cell? ⟨w2.heap.size, K * 3, none⟩ = some (.pointer none) := r0; have s1 : w3.cell? ⟨w2.heap.size, K * 3 + 1, none⟩ = some (.pointer (some ⟨b, 0, none⟩)) := r1; have s2 : w3.cell? ⟨w2.heap.size, K * 3 + 2, none⟩ = some (.int .i64 x) := r2; clear r0 r1 r2)
                    have A9 := A3.again CP.out HK.out (v0 := .pointer none) (v1 := .pointer (some ⟨b, 0, none⟩)) (v2 := x) (by rw [upd_same]; rfl) (by rw [upd_same]; rfl) (by rw [upd_same]; rfl)
                    go_roundw
                    case rel => exact ⟨k + 1, s3, σ + 1, c3, lk3, F3, _, by go_num, by omega, by omega, NG.out.put K _ (fun _ _ h => by cases h), C3, A9⟩
                    case measure => simp [intOf]; omega
                  | true =>
                    have hends : Hid (γ.ends c = true) := he
                    clear he
                    go_wp2_with (go_at_call 12; refine (A2.out.giveDone CP.out C.out HK.out hθ.out (by omega) hends.out).mono ?_; rintro e w3 ⟨rfl, s3, c3, lk3, F3, γ3, C3, A3, o3⟩; have kk := kx.out _ o3; have q0 := blk_cell (o := 0) kk rfl; have q1 := blk_cell (o := 1) kk rfl; have q2 := blk_cell (o := 2) kk rfl; have qf := blk_frozen kk; have r0 := A3.a.c0 HK.out; have r1 := A3.a.c1 HK.out; have r2 := A3.a.c2 HK.out; have rf := A3.a.fz; rw [upd_same] at r0 r1 r2; have s0 : w3.cell? ⟨w2.heap.size, K * 3, none⟩ = some (.pointer none) := r0; have s1 : w3.cell? ⟨w2.heap.size, K * 3 + 1, none⟩ = some (.pointer (some ⟨b, 0, none⟩)) := r1; have s2 : w3.cell? ⟨w2.heap.size, K * 3 + 2, none⟩ = some (.int .i64 x) := r2; clear r0 r1 r2; have t0 := fun O => alloc_cell s0 O; have t1 := fun O => alloc_cell s1 O; have t2 := fun O => alloc_cell s2 O; have tf := fun O => (A3.grown (grow_alloc (Below.refl _ _) O)).a.fz; have p0 := fun O => alloc_cell q0 O; have p1 := fun O => alloc_cell q1 O; have p2 := fun O => alloc_cell q2 O; have pf := fun O i => blk_frozen ((Go.Deep.blk_alloc_lt _ O _ (blk_lt kk)).trans kk) i; have hWX : ¬ wr.heap.size = w2.heap.size := by { have := hX.out; omega }; have hWX' : ¬ w2.heap.size = wr.heap.size := by { have := hX.out; omega })
                    have g4 : CrewAt w (w3.alloc (.cells #[.int .i64 0, .int .u64 0, .int .i64 0, .int .i64 0] 43)) L w1.heap.size w2.heap.size n s3 (σ + 1) _ _ _ _ := A3.grown (grow_alloc (Below.refl _ _) _)
                    have hW3 : wr.heap.size < w3.heap.size := blk_lt kk
                    have hTb : ∀ j, j < 3 → (upd θ K (.give b x γ3) j).b ≠ w3.heap.size := fun j hj => by have := Th.at_lt (A3.th j hj); omega
                    have hTx : ∀ j, j < 3 → (upd θ K (.give b x γ3) j).b ≠ wr.heap.size := fun j hj => by
                      by_cases e : j = K
                      · subst e; rw [upd_same]; show b ≠ wr.heap.size; have := hbX.out; omega
                      · rw [upd_other _ _ _ _ e]; have := hXT.out j hj; omega
                    have hLw : ¬ L.has wr.heap.size := fun h => by have := hXL.out _ h; omega
                    have hLn : ¬ L.has w3.heap.size := fun h => by have := hXL.out _ h; omega
                    have hEx : w1.heap.size ≠ wr.heap.size := by have := hXE.out; omega
                    have hNx : w3.heap.size ≠ wr.heap.size := by omega
                    have gg40 := g4.own (b := wr.heap.size) hX0.out hEx hLw (by have := hX.out; omega) hTx 0 (.pointer (some ⟨w3.heap.size, 0, none⟩))
                    have ggg401 := gg40.own (b := wr.heap.size) hX0.out hEx hLw (by have := hX.out; omega) hTx 1 (.pointer none)
                    have gggg4012 := ggg401.own (b := wr.heap.size) hX0.out hEx hLw (by have := hX.out; omega) hTx 2 (.int .i64 (-1))
                    have A9 := gggg4012.fresh CP.out HK.out (.take w3.heap.size .idle) ⟨_, ((((take0 w3).other hNx _ _).other hNx _ _).other hNx _ _)⟩ (by show w.heap.size ≤ w3.heap.size; have := hX0.out; omega) (by show w3.heap.size ≠ w1.heap.size; have := hXE.out; omega) (by show w3.heap.size ≠ w2.heap.size; have := hX.out; omega) hLn hTb (v0 := .pointer (some ⟨w3.heap.size, 0, none⟩)) (v1 := .pointer none) (v2 := -1) rfl rfl rfl
                    have C9 := C3 (.take w3.heap.size .idle) ⟨trivial, rfl⟩ rfl (fun _ h => h)
                    rw [upd_upd] at A9
                    go_roundw
                    case rel => exact ⟨k + 1, s3, σ + 1, c3, lk3, F3, _, by go_num, by omega, by omega, NG.out.put K _ (fun _ _ h => by cases h), C9, A9⟩
                    case measure => simp [intOf]; omega
                | take b τ =>
                  have hθ : Hid (θ K = .take b τ) := hθ0
                  rw [hθ0] at c0 c1 c2
                  have d0 : wr.cell? ⟨w2.heap.size, K * 3, none⟩ = some (.pointer (some ⟨b, 0, none⟩)) := c0
                  have d1 : wr.cell? ⟨w2.heap.size, K * 3 + 1, none⟩ = some (.pointer none) := c1
                  have d2 : wr.cell? ⟨w2.heap.size, K * 3 + 2, none⟩ = some (.int .i64 (-1)) := c2
                  have hbX : Hid (b < wr.heap.size) := by have := hXT.out K HK.out; rw [hθ0] at this; exact this
                  have hτ : Hid (τ.over = false) := by have := C.out.ok K HK.out; rw [hθ0] at this; exact this.2
                  clear c0 c1 c2 hθ0
                  have A2 : Hid (CrewAt w (wr.alloc (.cells #[.pointer (some ⟨b, 0, none⟩), .pointer none, .int .i64 (-1)] 39)) L w1.heap.size w2.heap.size n s σ c lk F θ) := A.out.grown (grow_alloc (Below.refl _ _) _)
                  have kx : Hid (∀ w', Only (L.and b) (wr.alloc (.cells #[.pointer (some ⟨b, 0, none⟩), .pointer none, .int .i64 (-1)] 39)) w' → w'.heap[wr.heap.size]? = some (.cells #[.pointer (some ⟨b, 0, none⟩), .pointer none, .int .i64 (-1)] 39 (0, 0))) := fun w' o => (o.block _ (by rw [Go.Deep.nblk_alloc]; omega) (fun hh => hh.elim (fun h => by have := hXL.out _ h; omega) (fun h => by have := hbX.out; omega))).trans (Go.Deep.blk_alloc_new _ _)
                  have v0 := fun O => alloc_cell y0 O
                  have v1 := fun O => alloc_cell y1 O
                  have v2 := fun O => alloc_cell y2 O
                  have v3 := fun O => alloc_cell y3 O
                  have v4 := fun O => alloc_cell y4 O
                  have v5 := fun O => alloc_cell y5 O
                  have v6 := fun O => alloc_cell y6 O
                  have v7 := fun O => alloc_cell y7 O
                  have v8 := fun O => alloc_cell y8 O
                  clear x0 x1 x2 x3 x4 x5 x6 x7 x8 y0 y1 y2 y3 y4 y5 y6 y7 y8
                  cases he : τ.ends c F with
                  | false =>
                    have hends : Hid (τ.ends c F = false) := he
                    clear he
                    go_wp2_with (go_at_call 13; refine (A2.out.takeOn CP.out C.out HK.out hθ.out (by omega) hends.out).mono ?_; rintro e w3 ⟨rfl, s3, c3, F3, τ3, C3, A3, o3⟩; have kk := kx.out _ o3; have q0 := blk_cell (o := 0) kk rfl; have q1 := blk_cell (o := 1) kk rfl; have q2 := blk_cell (o := 2) kk rfl; have qf := blk_frozen kk; have r0 := A3.a.c0 HK.out; have r1 := A3.a.c1 HK.out; have r2 := A3.a.c2 HK.out; have rf := A3.a.fz; rw [upd_same] at r0 r1 r2; have s0 : w3.cell? ⟨w2.heap.size, K * 3, none⟩ = some (.pointer (some ⟨b, 0, none⟩)) := r0; have s1 : w3.cell? ⟨w2.heap.size, K * 3 + 1, none⟩ = some (.pointer none) := r1; have s2 : w3.cell? ⟨w2.heap.size, K * 3 + 2, none⟩ = some (.int .i64 (-1)) := r2; clear r0 r1 r2)
                    have A9 := A3.again CP.out HK.out (v0 := .pointer (some ⟨b, 0, none⟩)) (v1 := .pointer none) (v2 := -1) (by rw [upd_same]; rfl) (by rw [upd_same]; rfl) (by rw [upd_same]; rfl)
                    go_roundw
                    case rel => exact ⟨k + 1, s3, σ + 1, c3, lk, F3, _, by go_num, by omega, by omega, NG.out.put K _ (fun _ _ h => by cases h), C3, A9⟩
                    case measure => simp [intOf]; omega
                  | true =>
                    cases τ with
                    | saw _ _ => cases he
                    | won _ => cases he
                    | none => cases he
                    | idle =>
                      have hF : Hid (F = []) := by unfold Hid; simpa [Tk.ends] using he
                      clear he
                      go_wp2_with (first
                        | (go_at_call 13; refine (A2.out.takeNone CP.out C.out HK.out hθ.out (by omega) hF.out).mono ?_; rintro e w3 ⟨rfl, s3, C3, A3, o3⟩; have kk := kx.out _ o3; have q0 := blk_cell (o := 0) kk rfl; have q1 := blk_cell (o := 1) kk rfl; have q2 := blk_cell (o := 2) kk rfl; have qf := blk_frozen kk; have r0 := A3.a.c0 HK.out; have r1 := A3.a.c1 HK.out; have r2 := A3.a.c2 HK.out; have rf := A3.a.fz; rw [upd_same] at r0 r1 r2; have s0 : w3.cell? ⟨w2.heap.size, K * 3, none⟩ = some (.pointer (some ⟨b, 0, none⟩)) := r0; have s1 : w3.cell? ⟨w2.heap.size, K * 3 + 1, none⟩ = some (.pointer none) := r1; have s2 : w3.cell? ⟨w2.heap.size, K * 3 + 2, none⟩ = some (.int .i64 (-1)) := r2; clear r0 r1 r2; have t0 := fun O => alloc_cell s0 O; have t1 := fun O => alloc_cell s1 O; have t2 := fun O => alloc_cell s2 O; have tf := fun O => (A3.grown (grow_alloc (Below.refl _ _) O)).a.fz; have p0 := fun O => alloc_cell q0 O; have p1 := fun O => alloc_cell q1 O; have p2 := fun O => alloc_cell q2 O; have pf := fun O i => blk_frozen ((Go.Deep.blk_alloc_lt _ O _ (blk_lt kk)).trans kk) i; have hWX : ¬ wr.heap.size = w2.heap.size := by { have := hX.out; omega }; have hWX' : ¬ w2.heap.size = wr.heap.size := by { have := hX.out; omega }; have i3 := A3.th K HK.out; rw [upd_same] at i3; obtain ⟨cs3, i3⟩ := i3)
                        | (go_at_call 14; refine (slot_none i3 rfl).mono ?_; rintro e w4 ⟨rfl, rfl⟩))
                      have g4 : CrewAt w (w4.alloc (.cells #[.int .i64 0, .int .u64 0, .int .i64 0, .int .i64 0] 43)) L w1.heap.size w2.heap.size n s3 (σ + 1) _ _ _ _ := A3.grown (grow_alloc (Below.refl _ _) _)
                      have hW3 : wr.heap.size < w4.heap.size := blk_lt kk
                      have hTb : ∀ j, j < 3 → (upd θ K (.take b .none) j).b ≠ w4.heap.size := fun j hj => by have := Th.at_lt (A3.th j hj); omega
                      have hTx : ∀ j, j < 3 → (upd θ K (.take b .none) j).b ≠ wr.heap.size := fun j hj => by
                        by_cases e : j = K
                        · subst e; rw [upd_same]; show b ≠ wr.heap.size; have := hbX.out; omega
                        · rw [upd_other _ _ _ _ e]; have := hXT.out j hj; omega
                      have hLw : ¬ L.has wr.heap.size := fun h => by have := hXL.out _ h; omega
                      have hLn : ¬ L.has w4.heap.size := fun h => by have := hXL.out _ h; omega
                      have hEx : w1.heap.size ≠ wr.heap.size := by have := hXE.out; omega
                      have hNx : w4.heap.size ≠ wr.heap.size := by omega
                      have gg40 := g4.own (b := wr.heap.size) hX0.out hEx hLw (by have := hX.out; omega) hTx 0 (.pointer (some ⟨w4.heap.size, 0, none⟩))
                      have A9 := gg40.fresh CP.out HK.out (.take w4.heap.size .idle) ⟨_, ((take0 w4).other hNx _ _)⟩ (by show w.heap.size ≤ w4.heap.size; have := hX0.out; omega) (by show w4.heap.size ≠ w1.heap.size; have := hXE.out; omega) (by show w4.heap.size ≠ w2.heap.size; have := hX.out; omega) hLn hTb (v0 := .pointer (some ⟨w4.heap.size, 0, none⟩)) (v1 := .pointer none) (v2 := -1) rfl rfl rfl
                      have C9 := C3 w4.heap.size
                      rw [upd_upd] at A9
                      go_roundw
                      case rel => exact ⟨k + 1, s3, σ + 1, c, lk, F, _, by go_num, by omega, by omega, NG.out.put K _ (fun _ _ h => by cases h), C9, A9⟩
                      case measure => simp [intOf]; omega
                    | lnk x c00 q =>
                      obtain rfl : c00 = c := by simpa [Tk.ends] using he
                      clear he
                      go_wp2_with (first
                        | (go_at_call 13; refine (A2.out.takeWon CP.out C.out HK.out hθ.out (by omega)).mono ?_; rintro e w3 ⟨rfl, s3, c3, F3, C3, hno, A3, o3⟩; have kk := kx.out _ o3; have q0 := blk_cell (o := 0) kk rfl; have q1 := blk_cell (o := 1) kk rfl; have q2 := blk_cell (o := 2) kk rfl; have qf := blk_frozen kk; have r0 := A3.a.c0 HK.out; have r1 := A3.a.c1 HK.out; have r2 := A3.a.c2 HK.out; have rf := A3.a.fz; rw [upd_same] at r0 r1 r2; have s0 : w3.cell? ⟨w2.heap.size, K * 3, none⟩ = some (.pointer (some ⟨b, 0, none⟩)) := r0; have s1 : w3.cell? ⟨w2.heap.size, K * 3 + 1, none⟩ = some (.pointer none) := r1; have s2 : w3.cell? ⟨w2.heap.size, K * 3 + 2, none⟩ = some (.int .i64 (-1)) := r2; clear r0 r1 r2; have i3 := A3.th K HK.out; rw [upd_same] at i3; obtain ⟨cs3, i3⟩ := i3)
                        | (go_at_call 14; refine (slot_won i3 x rfl).mono ?_; rintro e w4 ⟨rfl, rfl⟩))
                      have HV : Hid (∀ j, j < 3 → ∃ h : Int, w4.cell? ⟨w2.heap.size, j * 3 + 2, none⟩ = some (.int .i64 h) ∧ ¬ h = (x : Int)) := fun j hj => by
                        refine ⟨_, A3.a.c2 hj, ?_⟩
                        by_cases e : j = K
                        · subst e; rw [upd_same]; show ¬ (-1 : Int) = x; omega
                        · rw [upd_other _ _ _ _ e]; exact have_ne (hno j hj) (fun b v => NG.out j b v hj)
                      have A3' : Hid (CrewAt w w4 L w1.heap.size w2.heap.size n s3 (σ + 1) c3 lk F3 (upd θ K (.take b (.won x)))) := A3
                      have C3' : Hid (∀ b2, Crew n c3 lk F3 (upd θ K (.give b2 x .idle))) := C3
                      have kk' : Hid (w4.heap[wr.heap.size]? = some (.cells #[.pointer (some ⟨b, 0, none⟩), .pointer none, .int .i64 (-1)] 39 (0, 0))) := kk
                      have hrr : Hid (∀ O, ((w4.alloc O).cell? ⟨w2.heap.size, K * 3, none⟩ = some (.pointer (some ⟨b, 0, none⟩)) ∧ (w4.alloc O).cell? ⟨w2.heap.size, K * 3 + 1, none⟩ = some (.pointer none) ∧ (w4.alloc O).cell? ⟨w2.heap.size, K * 3 + 2, none⟩ = some (.int .i64 (-1)))) := fun O => ⟨alloc_cell s0 O, alloc_cell s1 O, alloc_cell s2 O⟩
                      clear A3 C3 kk q0 q1 q2 qf rf s0 s1 s2 i3 hno o3 d0 d1 d2 v0 v1 v2 v3 v4 v5 v6 v7 v8 A A2 kx
                      obtain ⟨X, hXX⟩ : ∃ X, wr.heap.size = X := ⟨_, rfl⟩
                      rw [hXX] at hX hXE hXL hXT hX0 hbX kk' ⊢
                      clear hXX
                      go_loopw [15] (fun i wq => ∃ q : Nat, i = .int .i64 q ∧ q ≤ 3 ∧ wq = w4) (fun i _ => 3 - (intOf i).toNat)
                      case atStart => exact ⟨0, rfl, by omega, rfl⟩
                      case round =>
                        obtain ⟨q, rfl, hq3, hw4⟩ := hrel
                        subst hw4
                        by_cases hq : q < 3
                        · have hq' : (q : Int) < 3 := by omega
                          obtain ⟨h, hh, hne⟩ := HV.out q hq
                          go_wp2
                          go_roundw
                          case rel => exact ⟨q + 1, by go_num, by omega, by trivial⟩
                          case measure => simp [intOf]; omega
                        · have hq' : ¬ (q : Int) < 3 := by omega
                          obtain rfl : q = 3 := by omega
                          clear hq hq3
                          have kk := kk'.out
                          have A3 := A3'.out
                          have t0 := fun O => (hrr.out O).1
                          have t1 := fun O => (hrr.out O).2.1
                          have t2 := fun O => (hrr.out O).2.2
                          have tf := fun O => (A3'.out.grown (grow_alloc (Below.refl _ _) O)).a.fz
                          have p0 := fun O => alloc_cell (blk_cell (o := 0) kk'.out rfl) O
                          have p1 := fun O => alloc_cell (blk_cell (o := 1) kk'.out rfl) O
                          have p2 := fun O => alloc_cell (blk_cell (o := 2) kk'.out rfl) O
                          have pf := fun O i => blk_frozen ((Go.Deep.blk_alloc_lt _ O _ (blk_lt kk'.out)).trans kk'.out) i
                          have hWX : ¬ X = w2.heap.size := by have := hX.out; omega
                          have hWX' : ¬ w2.heap.size = X := by have := hX.out; omega
                          go_wp2_with (go_at_call 15; refine (newGive_any x _).mono ?_; rintro e w5 ⟨rfl, rfl⟩)
                          have g4 : CrewAt w (wr.alloc (.cells #[.int .i64 0, .int .i64 x, .int .u64 0] 65)) L w1.heap.size w2.heap.size n s3 (σ + 1) _ _ _ _ := A3.grown (grow_alloc (Below.refl _ _) _)
                          have hW3 : X < wr.heap.size := blk_lt kk
                          have hTb : ∀ j, j < 3 → (upd θ K (.take b (.won x)) j).b ≠ wr.heap.size := fun j hj => by have := Th.at_lt (A3.th j hj); omega
                          have hTx : ∀ j, j < 3 → (upd θ K (.take b (.won x)) j).b ≠ X := fun j hj => by
                            by_cases e : j = K
                            · subst e; rw [upd_same]; show b ≠ X; have := hbX.out; omega
                            · rw [upd_other _ _ _ _ e]; have := hXT.out j hj; omega
                          have hLw : ¬ L.has X := fun h => by have := hXL.out _ h; omega
                          have hLn : ¬ L.has wr.heap.size := fun h => by have := hXL.out _ h; omega
                          have hEx : w1.heap.size ≠ X := by have := hXE.out; omega
                          have hNx : wr.heap.size ≠ X := by omega
                          have gg40 := g4.own (b := X) hX0.out hEx hLw (by have := hX.out; omega) hTx 0 (.pointer none)
                          have ggg401 := gg40.own (b := X) hX0.out hEx hLw (by have := hX.out; omega) hTx 1 (.pointer (some ⟨wr.heap.size, 0, none⟩))
                          have gggg4012 := ggg401.own (b := X) hX0.out hEx hLw (by have := hX.out; omega) hTx 2 (.int .i64 (x))
                          have A9 := gggg4012.fresh CP.out HK.out (.give wr.heap.size x .idle) ⟨_, ((((give0 wr x).other hNx _ _).other hNx _ _).other hNx _ _)⟩ (by show w.heap.size ≤ wr.heap.size; have := hX0.out; omega) (by show wr.heap.size ≠ w1.heap.size; have := hXE.out; omega) (by show wr.heap.size ≠ w2.heap.size; have := hX.out; omega) hLn hTb (v0 := .pointer none) (v1 := .pointer (some ⟨wr.heap.size, 0, none⟩)) (v2 := x) rfl rfl rfl
                          have C9 := C3'.out wr.heap.size
                          rw [upd_upd] at A9
                          go_roundw
                          case rel => exact ⟨k + 1, s3, σ + 1, c3, lk, F3, _, by go_num, by omega, by omega, NG.out.put K _ (fun _ _ h => by cases h), C9, A9⟩
                          case measure => simp [intOf]; omega
              · have hkN' : ¬ (k : Int) < (N : Int) := by omega
                clear hA
                have hK' : (K : Int) < 3 := by have := HK.out; omega
                have c0 := A.out.a.c0 HK.out
                have c1 := A.out.a.c1 HK.out
                have c2 := A.out.a.c2 HK.out
                have hX : Hid (w2.heap.size < wr.heap.size) := A.out.a.lt
                have hXE : Hid (w1.heap.size < wr.heap.size) := by unfold Hid; have := World.block_lt_of_cell? _ _ A.out.f.v.c0; simpa using this
                have hXL : Hid (∀ k, L.has k → k < wr.heap.size) := fun k hk => A.out.f.m.lt k hk
                have hXT : Hid (∀ j, j < 3 → (θ j).b < wr.heap.size) := fun j hj => Th.at_lt (A.out.th j hj)
                have hX0 : Hid (w.heap.size ≤ wr.heap.size) := A.out.f.b.size
                cases hθ0 : θ K with
                | gone b v => exact absurd hθ0 (NG.out K b v HK.out)
                | give b x γ =>
                  have hθ : Hid (θ K = .give b x γ) := hθ0
                  rw [hθ0] at c0 c1 c2
                  have d0 : wr.cell? ⟨w2.heap.size, K * 3, none⟩ = some (.pointer none) := c0
                  have d1 : wr.cell? ⟨w2.heap.size, K * 3 + 1, none⟩ = some (.pointer (some ⟨b, 0, none⟩)) := c1
                  have d2 : wr.cell? ⟨w2.heap.size, K * 3 + 2, none⟩ = some (.int .i64 x) := c2
                  have hbX : Hid (b < wr.heap.size) := by have := hXT.out K HK.out; rw [hθ0] at this; exact this
                  clear c0 c1 c2 hθ0
                  have A2 : Hid (CrewAt w (wr.alloc (.cells #[.pointer none, .pointer (some ⟨b, 0, none⟩), .int .i64 x] 39)) L w1.heap.size w2.heap.size n s σ c lk F θ) := A.out.grown (grow_alloc (Below.refl _ _) _)
                  have kx : Hid (∀ w', Only (L.and b) (wr.alloc (.cells #[.pointer none, .pointer (some ⟨b, 0, none⟩), .int .i64 x] 39)) w' → w'.heap[wr.heap.size]? = some (.cells #[.pointer none, .pointer (some ⟨b, 0, none⟩), .int .i64 x] 39 (0, 0))) := fun w' o => (o.block _ (by rw [Go.Deep.nblk_alloc]; omega) (fun hh => hh.elim (fun h => by have := hXL.out _ h; omega) (fun h => by have := hbX.out; omega))).trans (Go.Deep.blk_alloc_new _ _)
                  have v0 := fun O => alloc_cell y0 O
                  have v1 := fun O => alloc_cell y1 O
                  have v2 := fun O => alloc_cell y2 O
                  have v3 := fun O => alloc_cell y3 O
                  have v4 := fun O => alloc_cell y4 O
                  have v5 := fun O => alloc_cell y5 O
                  have v6 := fun O => alloc_cell y6 O
                  have v7 := fun O => alloc_cell y7 O
                  have v8 := fun O => alloc_cell y8 O
                  clear x0 x1 x2 x3 x4 x5 x6 x7 x8 y0 y1 y2 y3 y4 y5 y6 y7 y8
                  cases he : γ.ends c with
                  | false =>
                    have hends : Hid (γ.ends c = false) := he
                    clear he
                    go_wp2_with (go_at_call 12; refine (A2.out.giveOn CP.out C.out HK.out hθ.out (by omega) hends.out).mono ?_; rintro e w3 ⟨rfl, s3, c3, lk3, F3, γ3, -, C3, A3, o3⟩; have kk := kx.out _ o3; have q0 := blk_cell (o := 0) kk rfl; have q1 := blk_cell (o := 1) kk rfl; have q2 := blk_cell (o := 2) kk rfl; have qf := blk_frozen kk; have r0 := A3.a.c0 HK.out; have r1 := A3.a.c1 HK.out; have r2 := A3.a.c2 HK.out; have rf := A3.a.fz; rw [upd_same] at r0 r1 r2; have s0 : w3.cell? ⟨w2.heap.size, K * 3, none⟩ = some (.pointer none) := r0; have s1 : w3.cell? ⟨w2.heap.size, K * 3 + 1, none⟩ = some (.pointer (some ⟨b, 0, none⟩)) := r1; have s2 : w3.cell? ⟨w2.heap.size, K * 3 + 2, none⟩ = some (.int .i64 x) := r2; clear r0 r1 r2)
                    have A9 := A3.again CP.out HK.out (v0 := .pointer none) (v1 := .pointer (some ⟨b, 0, none⟩)) (v2 := x) (by rw [upd_same]; rfl) (by rw [upd_same]; rfl) (by rw [upd_same]; rfl)
                    go_roundw
                    case rel => exact ⟨k + 1, s3, σ + 1, c3, lk3, F3, _, by go_num, by omega, by omega, NG.out.put K _ (fun _ _ h => by cases h), C3, A9⟩
                    case measure => simp [intOf]; omega
                  | true =>
                    have hends : Hid (γ.ends c = true) := he
                    clear he
                    go_wp2_with (go_at_call 12; refine (A2.out.giveDone CP.out C.out HK.out hθ.out (by omega) hends.out).mono ?_; rintro e w3 ⟨rfl, s3, c3, lk3, F3, γ3, C3, A3, o3⟩; have kk := kx.out _ o3; have q0 := blk_cell (o := 0) kk rfl; have q1 := blk_cell (o := 1) kk rfl; have q2 := blk_cell (o := 2) kk rfl; have qf := blk_frozen kk; have r0 := A3.a.c0 HK.out; have r1 := A3.a.c1 HK.out; have r2 := A3.a.c2 HK.out; have rf := A3.a.fz; rw [upd_same] at r0 r1 r2; have s0 : w3.cell? ⟨w2.heap.size, K * 3, none⟩ = some (.pointer none) := r0; have s1 : w3.cell? ⟨w2.heap.size, K * 3 + 1, none⟩ = some (.pointer (some ⟨b, 0, none⟩)) := r1; have s2 : w3.cell? ⟨w2.heap.size, K * 3 + 2, none⟩ = some (.int .i64 x) := r2; clear r0 r1 r2; have t0 := fun O => alloc_cell s0 O; have t1 := fun O => alloc_cell s1 O; have t2 := fun O => alloc_cell s2 O; have tf := fun O => (A3.grown (grow_alloc (Below.refl _ _) O)).a.fz; have p0 := fun O => alloc_cell q0 O; have p1 := fun O => alloc_cell q1 O; have p2 := fun O => alloc_cell q2 O; have pf := fun O i => blk_frozen ((Go.Deep.blk_alloc_lt _ O _ (blk_lt kk)).trans kk) i; have hWX : ¬ wr.heap.size = w2.heap.size := by { have := hX.out; omega }; have hWX' : ¬ w2.heap.size = wr.heap.size := by { have := hX.out; omega })
                    have g4 : CrewAt w (w3.alloc (.cells #[.int .i64 0, .int .u64 0, .int .i64 0, .int .i64 0] 43)) L w1.heap.size w2.heap.size n s3 (σ + 1) _ _ _ _ := A3.grown (grow_alloc (Below.refl _ _) _)
                    have hW3 : wr.heap.size < w3.heap.size := blk_lt kk
                    have hTb : ∀ j, j < 3 → (upd θ K (.give b x γ3) j).b ≠ w3.heap.size := fun j hj => by have := Th.at_lt (A3.th j hj); omega
                    have hTx : ∀ j, j < 3 → (upd θ K (.give b x γ3) j).b ≠ wr.heap.size := fun j hj => by
                      by_cases e : j = K
                      · subst e; rw [upd_same]; show b ≠ wr.heap.size; have := hbX.out; omega
                      · rw [upd_other _ _ _ _ e]; have := hXT.out j hj; omega
                    have hLw : ¬ L.has wr.heap.size := fun h => by have := hXL.out _ h; omega
                    have hLn : ¬ L.has w3.heap.size := fun h => by have := hXL.out _ h; omega
                    have hEx : w1.heap.size ≠ wr.heap.size := by have := hXE.out; omega
                    have hNx : w3.heap.size ≠ wr.heap.size := by omega
                    have gg40 := g4.own (b := wr.heap.size) hX0.out hEx hLw (by have := hX.out; omega) hTx 0 (.pointer (some ⟨w3.heap.size, 0, none⟩))
                    have ggg401 := gg40.own (b := wr.heap.size) hX0.out hEx hLw (by have := hX.out; omega) hTx 1 (.pointer none)
                    have gggg4012 := ggg401.own (b := wr.heap.size) hX0.out hEx hLw (by have := hX.out; omega) hTx 2 (.int .i64 (-1))
                    have A9 := gggg4012.fresh CP.out HK.out (.take w3.heap.size .idle) ⟨_, ((((take0 w3).other hNx _ _).other hNx _ _).other hNx _ _)⟩ (by show w.heap.size ≤ w3.heap.size; have := hX0.out; omega) (by show w3.heap.size ≠ w1.heap.size; have := hXE.out; omega) (by show w3.heap.size ≠ w2.heap.size; have := hX.out; omega) hLn hTb (v0 := .pointer (some ⟨w3.heap.size, 0, none⟩)) (v1 := .pointer none) (v2 := -1) rfl rfl rfl
                    have C9 := C3 (.take w3.heap.size .idle) ⟨trivial, rfl⟩ rfl (fun _ h => h)
                    rw [upd_upd] at A9
                    go_roundw
                    case rel => exact ⟨k + 1, s3, σ + 1, c3, lk3, F3, _, by go_num, by omega, by omega, NG.out.put K _ (fun _ _ h => by cases h), C9, A9⟩
                    case measure => simp [intOf]; omega
                | take b τ =>
                  have hθ : Hid (θ K = .take b τ) := hθ0
                  rw [hθ0] at c0 c1 c2
                  have d0 : wr.cell? ⟨w2.heap.size, K * 3, none⟩ = some (.pointer (some ⟨b, 0, none⟩)) := c0
                  have d1 : wr.cell? ⟨w2.heap.size, K * 3 + 1, none⟩ = some (.pointer none) := c1
                  have d2 : wr.cell? ⟨w2.heap.size, K * 3 + 2, none⟩ = some (.int .i64 (-1)) := c2
                  have hbX : Hid (b < wr.heap.size) := by have := hXT.out K HK.out; rw [hθ0] at this; exact this
                  have hτ : Hid (τ.over = false) := by have := C.out.ok K HK.out; rw [hθ0] at this; exact this.2
                  clear c0 c1 c2 hθ0
                  have A2 : Hid (CrewAt w (wr.alloc (.cells #[.pointer (some ⟨b, 0, none⟩), .pointer none, .int .i64 (-1)] 39)) L w1.heap.size w2.heap.size n s σ c lk F θ) := A.out.grown (grow_alloc (Below.refl _ _) _)
                  have kx : Hid (∀ w', Only (L.and b) (wr.alloc (.cells #[.pointer (some ⟨b, 0, none⟩), .pointer none, .int .i64 (-1)] 39)) w' → w'.heap[wr.heap.size]? = some (.cells #[.pointer (some ⟨b, 0, none⟩), .pointer none, .int .i64 (-1)] 39 (0, 0))) := fun w' o => (o.block _ (by rw [Go.Deep.nblk_alloc]; omega) (fun hh => hh.elim (fun h => by have := hXL.out _ h; omega) (fun h => by have := hbX.out; omega))).trans (Go.Deep.blk_alloc_new _ _)
                  have v0 := fun O => alloc_cell y0 O
                  have v1 := fun O => alloc_cell y1 O
                  have v2 := fun O => alloc_cell y2 O
                  have v3 := fun O => alloc_cell y3 O
                  have v4 := fun O => alloc_cell y4 O
                  have v5 := fun O => alloc_cell y5 O
                  have v6 := fun O => alloc_cell y6 O
                  have v7 := fun O => alloc_cell y7 O
                  have v8 := fun O => alloc_cell y8 O
                  clear x0 x1 x2 x3 x4 x5 x6 x7 x8 y0 y1 y2 y3 y4 y5 y6 y7 y8
                  cases he : τ.ends c F with
                  | false =>
                    have hends : Hid (τ.ends c F = false) := he
                    clear he
                    go_wp2_with (go_at_call 13; refine (A2.out.takeOn CP.out C.out HK.out hθ.out (by omega) hends.out).mono ?_; rintro e w3 ⟨rfl, s3, c3, F3, τ3, C3, A3, o3⟩; have kk := kx.out _ o3; have q0 := blk_cell (o := 0) kk rfl; have q1 := blk_cell (o := 1) kk rfl; have q2 := blk_cell (o := 2) kk rfl; have qf := blk_frozen kk; have r0 := A3.a.c0 HK.out; have r1 := A3.a.c1 HK.out; have r2 := A3.a.c2 HK.out; have rf := A3.a.fz; rw [upd_same] at r0 r1 r2; have s0 : w3.cell? ⟨w2.heap.size, K * 3, none⟩ = some (.pointer (some ⟨b, 0, none⟩)) := r0; have s1 : w3.cell? ⟨w2.heap.size, K * 3 + 1, none⟩ = some (.pointer none) := r1; have s2 : w3.cell? ⟨w2.heap.size, K * 3 + 2, none⟩ = some (.int .i64 (-1)) := r2; clear r0 r1 r2)
                    have A9 := A3.again CP.out HK.out (v0 := .pointer (some ⟨b, 0, none⟩)) (v1 := .pointer none) (v2 := -1) (by rw [upd_same]; rfl) (by rw [upd_same]; rfl) (by rw [upd_same]; rfl)
                    go_roundw
                    case rel => exact ⟨k + 1, s3, σ + 1, c3, lk, F3, _, by go_num, by omega, by omega, NG.out.put K _ (fun _ _ h => by cases h), C3, A9⟩
                    case measure => simp [intOf]; omega
                  | true =>
                    cases τ with
                    | saw _ _ => cases he
                    | won _ => cases he
                    | none => cases he
                    | idle =>
                      have hF : Hid (F = []) := by unfold Hid; simpa [Tk.ends] using he
                      clear he
                      go_wp2_with (first
                        | (go_at_call 13; refine (A2.out.takeNone CP.out C.out HK.out hθ.out (by omega) hF.out).mono ?_; rintro e w3 ⟨rfl, s3, C3, A3, o3⟩; have kk := kx.out _ o3; have q0 := blk_cell (o := 0) kk rfl; have q1 := blk_cell (o := 1) kk rfl; have q2 := blk_cell (o := 2) kk rfl; have qf := blk_frozen kk; have r0 := A3.a.c0 HK.out; have r1 := A3.a.c1 HK.out; have r2 := A3.a.c2 HK.out; have rf := A3.a.fz; rw [upd_same] at r0 r1 r2; have s0 : w3.cell? ⟨w2.heap.size, K * 3, none⟩ = some (.pointer (some ⟨b, 0, none⟩)) := r0; have s1 : w3.cell? ⟨w2.heap.size, K * 3 + 1, none⟩ = some (.pointer none) := r1; have s2 : w3.cell? ⟨w2.heap.size, K * 3 + 2, none⟩ = some (.int .i64 (-1)) := r2; clear r0 r1 r2; have t0 := fun O => alloc_cell s0 O; have t1 := fun O => alloc_cell s1 O; have t2 := fun O => alloc_cell s2 O; have tf := fun O => (A3.grown (grow_alloc (Below.refl _ _) O)).a.fz; have p0 := fun O => alloc_cell q0 O; have p1 := fun O => alloc_cell q1 O; have p2 := fun O => alloc_cell q2 O; have pf := fun O i => blk_frozen ((Go.Deep.blk_alloc_lt _ O _ (blk_lt kk)).trans kk) i; have hWX : ¬ wr.heap.size = w2.heap.size := by { have := hX.out; omega }; have hWX' : ¬ w2.heap.size = wr.heap.size := by { have := hX.out; omega }; have i3 := A3.th K HK.out; rw [upd_same] at i3; obtain ⟨cs3, i3⟩ := i3)
                        | (go_at_call 14; refine (slot_none i3 rfl).mono ?_; rintro e w4 ⟨rfl, rfl⟩))
                      have g4 : CrewAt w (w4.alloc (.cells #[.int .i64 0, .int .u64 0, .int .i64 0, .int .i64 0] 43)) L w1.heap.size w2.heap.size n s3 (σ + 1) _ _ _ _ := A3.grown (grow_alloc (Below.refl _ _) _)
                      have hW3 : wr.heap.size < w4.heap.size := blk_lt kk
                      have hTb : ∀ j, j < 3 → (upd θ K (.take b .none) j).b ≠ w4.heap.size := fun j hj => by have := Th.at_lt (A3.th j hj); omega
                      have hTx : ∀ j, j < 3 → (upd θ K (.take b .none) j).b ≠ wr.heap.size := fun j hj => by
                        by_cases e : j = K
                        · subst e; rw [upd_same]; show b ≠ wr.heap.size; have := hbX.out; omega
                        · rw [upd_other _ _ _ _ e]; have := hXT.out j hj; omega
                      have hLw : ¬ L.has wr.heap.size := fun h => by have := hXL.out _ h; omega
                      have hLn : ¬ L.has w4.heap.size := fun h => by have := hXL.out _ h; omega
                      have hEx : w1.heap.size ≠ wr.heap.size := by have := hXE.out; omega
                      have hNx : w4.heap.size ≠ wr.heap.size := by omega
                      have gg40 := g4.own (b := wr.heap.size) hX0.out hEx hLw (by have := hX.out; omega) hTx 0 (.pointer (some ⟨w4.heap.size, 0, none⟩))
                      have A9 := gg40.fresh CP.out HK.out (.take w4.heap.size .idle) ⟨_, ((take0 w4).other hNx _ _)⟩ (by show w.heap.size ≤ w4.heap.size; have := hX0.out; omega) (by show w4.heap.size ≠ w1.heap.size; have := hXE.out; omega) (by show w4.heap.size ≠ w2.heap.size; have := hX.out; omega) hLn hTb (v0 := .pointer (some ⟨w4.heap.size, 0, none⟩)) (v1 := .pointer none) (v2 := -1) rfl rfl rfl
                      have C9 := C3 w4.heap.size
                      rw [upd_upd] at A9
                      go_roundw
                      case rel => exact ⟨k + 1, s3, σ + 1, c, lk, F, _, by go_num, by omega, by omega, NG.out.put K _ (fun _ _ h => by cases h), C9, A9⟩
                      case measure => simp [intOf]; omega
                    | lnk x c00 q =>
                      obtain rfl : c00 = c := by simpa [Tk.ends] using he
                      clear he
                      go_wp2_with (first
                        | (go_at_call 13; refine (A2.out.takeWon CP.out C.out HK.out hθ.out (by omega)).mono ?_; rintro e w3 ⟨rfl, s3, c3, F3, C3, hno, A3, o3⟩; have kk := kx.out _ o3; have q0 := blk_cell (o := 0) kk rfl; have q1 := blk_cell (o := 1) kk rfl; have q2 := blk_cell (o := 2) kk rfl; have qf := blk_frozen kk; have r0 := A3.a.c0 HK.out; have r1 := A3.a.c1 HK.out; have r2 := A3.a.c2 HK.out; have rf := A3.a.fz; rw [upd_same] at r0 r1 r2; have s0 : w3.cell? ⟨w2.heap.size, K * 3, none⟩ = some (.pointer (some ⟨b, 0, none⟩)) := r0; have s1 : w3.cell? ⟨w2.heap.size, K * 3 + 1, none⟩ = some (.pointer none) := r1; have s2 : w3.cell? ⟨w2.heap.size, K * 3 + 2, none⟩ = some (.int .i64 (-1)) := r2; clear r0 r1 r2; have i3 := A3.th K HK.out; rw [upd_same] at i3; obtain ⟨cs3, i3⟩ := i3)
                        | (go_at_call 14; refine (slot_won i3 x rfl).mono ?_; rintro e w4 ⟨rfl, rfl⟩))
                      have HV : Hid (∀ j, j < 3 → ∃ h : Int, w4.cell? ⟨w2.heap.size, j * 3 + 2, none⟩ = some (.int .i64 h) ∧ ¬ h = (x : Int)) := fun j hj => by
                        refine ⟨_, A3.a.c2 hj, ?_⟩
                        by_cases e : j = K
                        · subst e; rw [upd_same]; show ¬ (-1 : Int) = x; omega
                        · rw [upd_other _ _ _ _ e]; exact have_ne (hno j hj) (fun b v => NG.out j b v hj)
                      have A3' : Hid (CrewAt w w4 L w1.heap.size w2.heap.size n s3 (σ + 1) c3 lk F3 (upd θ K (.take b (.won x)))) := A3
                      have C3' : Hid (∀ b2, Crew n c3 lk F3 (upd θ K (.give b2 x .idle))) := C3
                      have kk' : Hid (w4.heap[wr.heap.size]? = some (.cells #[.pointer (some ⟨b, 0, none⟩), .pointer none, .int .i64 (-1)] 39 (0, 0))) := kk
                      have hrr : Hid (∀ O, ((w4.alloc O).cell? ⟨w2.heap.size, K * 3, none⟩ = some (.pointer (some ⟨b, 0, none⟩)) ∧ (w4.alloc O).cell? ⟨w2.heap.size, K * 3 + 1, none⟩ = some (.pointer none) ∧ (w4.alloc O).cell? ⟨w2.heap.size, K * 3 + 2, none⟩ = some (.int .i64 (-1)))) := fun O => ⟨alloc_cell s0 O, alloc_cell s1 O, alloc_cell s2 O⟩
                      clear A3 C3 kk q0 q1 q2 qf rf s0 s1 s2 i3 hno o3 d0 d1 d2 v0 v1 v2 v3 v4 v5 v6 v7 v8 A A2 kx
                      obtain ⟨X, hXX⟩ : ∃ X, wr.heap.size = X := ⟨_, rfl⟩
                      rw [hXX] at hX hXE hXL hXT hX0 hbX kk' ⊢
                      clear hXX
                      go_loopw [15] (fun i wq => ∃ q : Nat, i = .int .i64 q ∧ q ≤ 3 ∧ wq = w4) (fun i _ => 3 - (intOf i).toNat)
                      case atStart => exact ⟨0, rfl, by omega, rfl⟩
                      case round =>
                        obtain ⟨q, rfl, hq3, hw4⟩ := hrel
                        subst hw4
                        by_cases hq : q < 3
                        · have hq' : (q : Int) < 3 := by omega
                          obtain ⟨h, hh, hne⟩ := HV.out q hq
                          go_wp2
                          go_roundw
                          case rel => exact ⟨q + 1, by go_num, by omega, by trivial⟩
                          case measure => simp [intOf]; omega
                        · have hq' : ¬ (q : Int) < 3 := by omega
                          obtain rfl : q = 3 := by omega
                          clear hq hq3
                          have kk := kk'.out
                          have A3 := A3'.out
                          have t0 := fun O => (hrr.out O).1
                          have t1 := fun O => (hrr.out O).2.1
                          have t2 := fun O => (hrr.out O).2.2
                          have tf := fun O => (A3'.out.grown (grow_alloc (Below.refl _ _) O)).a.fz
                          have p0 := fun O => alloc_cell (blk_cell (o := 0) kk'.out rfl) O
                          have p1 := fun O => alloc_cell (blk_cell (o := 1) kk'.out rfl) O
                          have p2 := fun O => alloc_cell (blk_cell (o := 2) kk'.out rfl) O
                          have pf := fun O i => blk_frozen ((Go.Deep.blk_alloc_lt _ O _ (blk_lt kk'.out)).trans kk'.out) i
                          have hWX : ¬ X = w2.heap.size := by have := hX.out; omega
                          have hWX' : ¬ w2.heap.size = X := by have := hX.out; omega
                          go_wp2_with (go_at_call 15; refine (newGive_any x _).mono ?_; rintro e w5 ⟨rfl, rfl⟩)
                          have g4 : CrewAt w (wr.alloc (.cells #[.int .i64 0, .int .i64 x, .int .u64 0] 65)) L w1.heap.size w2.heap.size n s3 (σ + 1) _ _ _ _ := A3.grown (grow_alloc (Below.refl _ _) _)
                          have hW3 : X < wr.heap.size := blk_lt kk
                          have hTb : ∀ j, j < 3 → (upd θ K (.take b (.won x)) j).b ≠ wr.heap.size := fun j hj => by have := Th.at_lt (A3.th j hj); omega
                          have hTx : ∀ j, j < 3 → (upd θ K (.take b (.won x)) j).b ≠ X := fun j hj => by
                            by_cases e : j = K
                            · subst e; rw [upd_same]; show b ≠ X; have := hbX.out; omega
                            · rw [upd_other _ _ _ _ e]; have := hXT.out j hj; omega
                          have hLw : ¬ L.has X := fun h => by have := hXL.out _ h; omega
                          have hLn : ¬ L.has wr.heap.size := fun h => by have := hXL.out _ h; omega
                          have hEx : w1.heap.size ≠ X := by have := hXE.out; omega
                          have hNx : wr.heap.size ≠ X := by omega
                          have gg40 := g4.own (b := X) hX0.out hEx hLw (by have := hX.out; omega) hTx 0 (.pointer none)
                          have ggg401 := gg40.own (b := X) hX0.out hEx hLw (by have := hX.out; omega) hTx 1 (.pointer (some ⟨wr.heap.size, 0, none⟩))
                          have gggg4012 := ggg401.own (b := X) hX0.out hEx hLw (by have := hX.out; omega) hTx 2 (.int .i64 (x))
                          have A9 := gggg4012.fresh CP.out HK.out (.give wr.heap.size x .idle) ⟨_, ((((give0 wr x).other hNx _ _).other hNx _ _).other hNx _ _)⟩ (by show w.heap.size ≤ wr.heap.size; have := hX0.out; omega) (by show wr.heap.size ≠ w1.heap.size; have := hXE.out; omega) (by show wr.heap.size ≠ w2.heap.size; have := hX.out; omega) hLn hTb (v0 := .pointer none) (v1 := .pointer (some ⟨wr.heap.size, 0, none⟩)) (v2 := x) rfl rfl rfl
                          have C9 := C3'.out wr.heap.size
                          rw [upd_upd] at A9
                          go_roundw
                          case rel => exact ⟨k + 1, s3, σ + 1, c3, lk, F3, _, by go_num, by omega, by omega, NG.out.put K _ (fun _ _ h => by cases h), C9, A9⟩
                          case measure => simp [intOf]; omega
          · by_cases he1 : k < N + 60
            · have he1' : (k : Int) < (N : Int) + 60 := by omega
              have he3 : (360 : Int) < (k : Int) := by omega
              have he4 : ¬ (k : Int) < 300 := by omega
              clear hend
              by_cases hkN : k < N
              · have hkN' : (k : Int) < (N : Int) := by omega
                go_wp2_with (go_at_call 16; refine FR.mono ?_; rintro e w3 ⟨rfl, b3⟩)
                go_ret
                exact ⟨rfl, b3⟩
              · have hkN' : ¬ (k : Int) < (N : Int) := by omega
                go_wp2_with (go_at_call 16; refine FR.mono ?_; rintro e w3 ⟨rfl, b3⟩)
                go_ret
                exact ⟨rfl, b3⟩
            · have he1' : ¬ (k : Int) < (N : Int) + 60 := by omega
              clear hend
              go_wp2_with (go_at_call 16; refine FR.mono ?_; rintro e w3 ⟨rfl, b3⟩)
              go_ret
              exact ⟨rfl, b3⟩
        · have hwr : IntKind.i64.wrap ((N : Int) + 60) = (N : Int) + 60 - 18446744073709551616 := by rw [IntKind.wrap_i64]; omega
          have hneg : ¬ (k : Int) < (N : Int) + 60 - 18446744073709551616 := by omega
          go_wp2_with (go_at_call 16; refine FR.mono ?_; rintro e w3 ⟨rfl, b3⟩)
          go_ret
          exact ⟨rfl, b3⟩

end Go.Proofs.Ytfedcddnjollmaa
