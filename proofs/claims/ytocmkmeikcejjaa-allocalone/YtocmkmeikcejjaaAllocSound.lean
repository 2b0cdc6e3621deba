/- The statements' own helper: an object lives by a handle, with a head of its own, and noughts. -/
import Derived.Test.YtocmkmeikcejjaaAllocMake
namespace Go.Proofs.Ytocmkmeikcejjaa
open Go.RowKit

theorem packS_is (a G : Nat) (ha : a < 1048576) (hG : G ≤ 65535) : packS 1 a G 0 = 1 + a * 8 + G * 8388608 := by
  unfold packS
  rw [cut_id 1 3 (by omega) (by decide), cut_id a 20 (by omega) (by simp; omega), cut_id G 16 (by omega) (by simp; omega), cut_id 0 22 (by omega) (by decide)]
  omega
theorem packH_is (x G : Nat) (hx : x ≤ 65535) (hG : G ≤ 65535) : packH x G = x + G * 65536 := by
  unfold packH
  rw [cut_id x 16 (by omega) (by simp; omega), cut_id G 16 (by omega) (by simp; omega)]
theorem packOw_is (kd Z x G : Nat) (own : Bool) (hk : kd ≤ 3) (hZ : Z ≤ 65535) (hx : x ≤ 65535) (hG : G ≤ 65535) : packOw kd Z x G own = kd + Z * 4 + x * 262144 + G * 17179869184 + (if own then 1125899906842624 else 0) := by
  unfold packOw packO
  rw [cut_id kd 2 (by omega) (by simp; omega), cut_id Z 16 (by omega) (by simp; omega), cut_id x 16 (by omega) (by simp; omega), cut_id G 16 (by omega) (by simp; omega)]
  cases own <;> simp

theorem slot_dec (a G : Nat) (ha : a < 1048576) (hG : G ≤ 65535) (w : World) :
    Calls Try.prog 17 #[.int .u64 (packS 1 a G 0)] w fun e w' => e = .returned (.agg #[.int .i64 1, .int .i64 a, .int .i64 G, .int .i64 0]) ∧ Below w.heap.size w w' := by
  rw [packS_is a G ha hG]
  have k := slot_any (1 + a * 8 + G * 8388608) w (by omega) (by omega)
  rwa [show ((1 : Int) + a * 8 + G * 8388608) % 8 = 1 by omega, show ((1 : Int) + a * 8 + G * 8388608) / 8 % 1048576 = a by omega, show ((1 : Int) + a * 8 + G * 8388608) / 8388608 % 65536 = G by omega, show ((1 : Int) + a * 8 + G * 8388608) / 549755813888 % 4194304 = 0 by omega] at k
theorem handle_dec (x G : Nat) (hx : x ≤ 65535) (h1 : 1 ≤ G) (hG : G ≤ 65535) (w : World) :
    Calls Try.prog 16 #[.int .u64 (packH x G)] w fun e w' => e = .returned (.tuple #[.agg #[.int .i64 x, .int .i64 G], .bool true]) ∧ Below w.heap.size w w' := by
  rw [packH_is x G hx hG]
  have k := handle_yes (x + G * 65536) w (by omega) (by omega)
  rwa [show ((x : Int) + G * 65536) % 65536 = x by omega, show ((x : Int) + G * 65536) / 65536 = G by omega] at k
theorem head_dec (kd Z x G : Nat) (own : Bool) (hk : kd ≤ 3) (hZ : Z ≤ 65535) (hx : x ≤ 65535) (hG : G ≤ 65535) (w : World) :
    Calls Try.prog 19 #[.int .u64 (packOw kd Z x G own)] w fun e w' => e = .returned (.agg #[.int .i64 kd, .int .i64 Z, .int .i64 x, .int .i64 G, .bool own]) ∧ Below w.heap.size w w' := by
  rw [packOw_is kd Z x G own hk hZ hx hG]
  cases own
  · have k := head_any (kd + Z * 4 + x * 262144 + G * 17179869184 + 0) w (by omega) (by omega)
    rw [show ((kd : Int) + Z * 4 + x * 262144 + G * 17179869184 + 0) % 4 = kd by omega, show ((kd : Int) + Z * 4 + x * 262144 + G * 17179869184 + 0) / 4 % 65536 = Z by omega, show ((kd : Int) + Z * 4 + x * 262144 + G * 17179869184 + 0) / 262144 % 65536 = x by omega, show ((kd : Int) + Z * 4 + x * 262144 + G * 17179869184 + 0) / 17179869184 % 65536 = G by omega, decide_eq_false (show ¬ ((kd : Int) + Z * 4 + x * 262144 + G * 17179869184 + 0) / 1125899906842624 % 2 = 1 by omega)] at k
    simpa using k
  · have k := head_any (kd + Z * 4 + x * 262144 + G * 17179869184 + 1125899906842624) w (by omega) (by omega)
    rw [show ((kd : Int) + Z * 4 + x * 262144 + G * 17179869184 + 1125899906842624) % 4 = kd by omega, show ((kd : Int) + Z * 4 + x * 262144 + G * 17179869184 + 1125899906842624) / 4 % 65536 = Z by omega, show ((kd : Int) + Z * 4 + x * 262144 + G * 17179869184 + 1125899906842624) / 262144 % 65536 = x by omega, show ((kd : Int) + Z * 4 + x * 262144 + G * 17179869184 + 1125899906842624) / 17179869184 % 65536 = G by omega, decide_eq_true (show ((kd : Int) + Z * 4 + x * 262144 + G * 17179869184 + 1125899906842624) / 1125899906842624 % 2 = 1 by omega)] at k
    simpa using k

/-- an object lives in an arena's memory -/
structure Lives (t n k m : Nat) (s : Mm) (σ : Nat) (x G a i u : Nat) (own : Bool) (Z κ : Nat) (C : Ck) : Prop where
  z1 : 1 ≤ Z
  z2 : Z ≤ 16
  kz : classOf Z = κ
  k4 : κ < 4
  x1 : x < n
  g1 : 1 ≤ G
  g2 : G ≤ 65535
  sw : s.wd (6 + t + x * 2) = packS 1 a G 0
  hw : s.wd a = packOw 2 Z x G own
  nt : ∀ j, 1 ≤ j → j ≤ Z → s.wd (a + j) = 0
  ae : a = base t n k m i + u
  ik : i < k
  uk : u + room κ ≤ m
  ok : C.ok σ
  cw : s.wd (6 + t + n * 2 + i * 3) = C.w
  c1 : C.st = 1
  c2 : C.cl = κ

theorem size_room {Z κ : Nat} (h1 : 1 ≤ Z) (hK : classOf Z = κ) : Z + 1 ≤ room κ := by
  have : (Z ≤ 2 ∧ κ = 0) ∨ (Z ≤ 4 ∧ κ = 1) ∨ (Z ≤ 8 ∧ κ = 2) ∨ (Z ≤ 16 ∧ κ = 3) := by
    unfold classOf at hK
    repeat' split at hK
    all_goals omega
  rcases this with ⟨h, rfl⟩ | ⟨h, rfl⟩ | ⟨h, rfl⟩ | ⟨h, rfl⟩ <;> simp only [room] <;> omega

set_option maxHeartbeats 2000000 in
theorem sound_any {w : World} {L : Loc} {t n k m : Nat} {s : Mm} {σ x G a i u : Nat} {own : Bool} {Z κ : Nat} {C : Ck} (h : MemAt w L s) (hG : Good t n k m 100 600 3) (hn16 : n ≤ 65535) (hlen : s.n = 6 + t + n * 2 + k * 3 + k * m) (hσ : σ ≤ 2000000) (hl : Lives t n k m s σ x G a i u own Z κ C) :
    Calls Try.prog 9 #[.agg #[.int .i64 t, .int .i64 n, .int .i64 k, .int .i64 m, .int .i64 100, .int .i64 600, .int .i64 3, .pointer (some ⟨L.p, 0, none⟩), .int .i64 0], .int .u64 (packH x G), .int .i64 Z, .bool own] w fun e w' => e = .returned (.bool true) ∧ Below w.heap.size w w' := by
  obtain ⟨z1, z2, kz, k4, x1, g1, g2, sw, hw, nt, ae, ik, uk, ok, cw, c1, c2⟩ := hl
  have har := hG.arena
  obtain ⟨t0, t1, n0, n1, k0, k1, m0, m1, -⟩ := hG
  have hmk : k * m ≤ 64 * 256 := Nat.mul_le_mul k1 m1
  have hin := base_in (t := t) (n := n) ik uk
  rw [← ae] at hin
  have hsr := size_room z1 kz
  have hh := fun w => handle_dec x G (by omega) g1 g2 w
  have hs := fun w => slot_dec a G (by omega) g2 w
  have hd := fun w => head_dec 2 Z x G own (by omega) (by omega) (by omega) g2 w
  have hc := fun w => chunk_w C σ ok (by omega) w
  have hcls := fun w => rclass_any Z w
  rw [kz] at hcls
  rw [c1, c2] at hc
  have hls := fun w => lslot_any t n k m 100 600 3 x w har (by omega) (by omega)
  have hlc := fun w => lchunk_any t n k m 100 600 3 i w har (by omega) (by omega)
  have hq : ((a : Int) - (6 + (t : Int) + (n : Int) * 2 + (k : Int) * 3)) / (m : Int) = (i : Int) := by
    have hr := room_bd κ
    have e : ((a : Int) - (6 + (t : Int) + (n : Int) * 2 + (k : Int) * 3)) = (u : Int) + (m : Int) * (i : Int) := by
      rw [ae]; unfold base
      have : ((i * m : Nat) : Int) = (m : Int) * (i : Int) := by rw [Int.natCast_mul, Int.mul_comm]
      omega
    rw [e, Int.add_mul_ediv_left _ _ (by omega), Int.ediv_eq_zero_of_lt (by omega) (by omega)]
    omega
  have hlo := fun w => lof_in t n k m 100 600 3 a i w har (by omega) (by omega) (by omega) hq (by omega)
  obtain ⟨V, hV⟩ : ∃ V, packS 1 a G 0 = V := ⟨_, rfl⟩
  obtain ⟨D, hD⟩ : ∃ D, packOw 2 Z x G own = D := ⟨_, rfl⟩
  obtain ⟨Hh, hHh⟩ : ∃ Hh, packH x G = Hh := ⟨_, rfl⟩
  obtain ⟨Ac, hAc⟩ : ∃ Ac, 6 + t + n * 2 + i * 3 = Ac := ⟨_, rfl⟩
  obtain ⟨As, hAs⟩ : ∃ As, 6 + t + x * 2 = As := ⟨_, rfl⟩
  obtain ⟨Cw, hCw⟩ : ∃ Cw, C.w = Cw := ⟨_, rfl⟩
  obtain ⟨Us, hUs⟩ : ∃ Us, C.us = Us := ⟨_, rfl⟩
  obtain ⟨Sp, hSp⟩ : ∃ Sp, C.sp = Sp := ⟨_, rfl⟩
  have hls' : ∀ w, Calls Try.prog 18 #[.agg #[.int .i64 t, .int .i64 n, .int .i64 k, .int .i64 m, .int .i64 100, .int .i64 600, .int .i64 3], .int .i64 x] w fun e w' => e = .returned (.int .i64 As) ∧ Below w.heap.size w w' := fun w => by
    have := hls w
    rwa [show (6 : Int) + t + x * 2 = (As : Int) by omega] at this
  have hlc' : ∀ w, Calls Try.prog 11 #[.agg #[.int .i64 t, .int .i64 n, .int .i64 k, .int .i64 m, .int .i64 100, .int .i64 600, .int .i64 3], .int .i64 i] w fun e w' => e = .returned (.int .i64 Ac) ∧ Below w.heap.size w w' := fun w => by
    have := hlc w
    rwa [show (6 : Int) + t + n * 2 + i * 3 = (Ac : Int) by omega] at this
  rw [hV] at hs sw
  rw [show packOw ((2 : Nat) : Int) Z x G own = D from hD] at hd
  rw [hD] at hw
  rw [hHh] at hh ⊢
  rw [hCw] at hc cw
  rw [hUs, hSp] at hc
  rw [hAs] at sw
  rw [hAc] at cw
  have hxn : (x : Int) < (n : Int) := by omega
  have HW : Hid (s.wd a = D) := hw
  have HV : Hid (s.wd As = V) := sw
  have HC : Hid (s.wd Ac = Cw) := cw
  have HN : Hid (∀ j, 1 ≤ j → j ≤ Z → s.wd (a + j) = 0) := nt
  have ha1 : Hid (a + Z < s.n) := by unfold Hid; omega
  have ha2 : Hid (As < s.n ∧ Ac < s.n) := by unfold Hid; omega
  have ha3 : a ≤ 1000000 := by omega
  have HM : Hid (MemAt w L s) := h
  clear hls hlc hq hw sw cw nt hD hV hHh hAc hAs hCw hUs hSp hlen hin hsr ae uk ok c1 c2 t0 t1 n0 n1 m0 m1 k0 k1 hmk h kz ik x1 hn16 hσ
  go_enter Try.func9, Try.ntmps9
  go_wp2_with (go_at_call 16; refine (hh _).mono ?_; rintro e w1 ⟨rfl, b1⟩; have v1 : BoxV w1 w.heap.size t n k m 100 600 3 L.p 0 := BoxV.new.grown b1; have v2 := v1.grown (grow_alloc (Below.refl _ _) (.cells #[.int .i64 x, .int .i64 G] 49)); have y0 := v2.c0; have y1 := v2.c1)
  have j1 := At.new w1 49 [.int .i64 x, .int .i64 G]
  obtain ⟨B, hB⟩ : ∃ B, w1.heap.size = B := ⟨_, rfl⟩
  have hBw : Hid (w.heap.size < B) := by have := b1.size; rw [Go.Deep.nblk_alloc] at this; unfold Hid; omega
  rw [hB] at j1 ⊢
  refine wp_over (fun W => MemAt W L s ∧ BoxV W w.heap.size t n k m 100 600 3 L.p 0 ∧ At W B 0 49 _ [.int .i64 x, .int .i64 G] ∧ Below w.heap.size w W) ⟨((HM.out.alloc _).below b1).alloc _, v2, j1, grow_alloc (grow (grow_alloc (Below.refl _ _) _) b1) _⟩ ?_
  clear b1 v1 v2 y0 y1 j1 hB hh HM
  rintro W ⟨m1, v1, j1, b1⟩
  obtain ⟨Sz, hSz⟩ : ∃ Sz, W.heap.size = Sz := ⟨_, rfl⟩
  refine wp_region_rely_tail Grown 10 [.val (.pointer (some ⟨w.heap.size, 7, none⟩)), .val (.pointer (some ⟨L.p, 0, none⟩)), .val (.pointer (some ⟨w.heap.size, 0, none⟩)), .val (.agg #[.int .i64 t, .int .i64 n, .int .i64 k, .int .i64 m, .int .i64 100, .int .i64 600, .int .i64 3]), .val (.pointer (some ⟨B, 0, none⟩)), .val (.int .i64 x), .val (.int .i64 As), .val (.int .u64 V), .val (.agg #[.int .i64 1, .int .i64 a, .int .i64 G, .int .i64 0]), .that (fun w' v => ∃ X, v = .pointer (some ⟨X, 0, none⟩) ∧ Sz ≤ X ∧ At w' X 0 53 #[.int .i64 0, .int .i64 0, .int .i64 0, .int .i64 0] [.int .i64 0, .int .i64 0, .int .i64 0, .int .i64 0]) ?_] (by kernel_rfl) Grown.refl Grown.trans (by decide) (by kernel_rfl) (by kernel_rfl) (by kernel_rfl) (by kernel_rfl) (by kernel_rfl) (by kernel_rfl) ?_
  · rintro x1 y1 v hg ⟨X, hv, hb, hr⟩
    exact ⟨X, hv, hb, hr.grown hg⟩
  simp only [List.take_succ_cons, List.take_zero, relyAll, Act.put, List.setIfInBounds_toArray, List.set_cons_zero, List.set_cons_succ]
  refine ⟨?_, ?_, ?_, ?_, ?_, ?_, ?_, ?_, ?_, ?_, ?_⟩
  · intro w' hg _
    refine Or.inl ⟨rfl, ?_⟩
    go_simp
    exact ⟨Grown.refl _, rfl⟩
  · intro w' hg _
    refine Or.inl ⟨rfl, ?_⟩
    have vv := (v1.grown ((Below.refl _ _).drew)).grown hg
    have y0 := vv.c0
    have y1 := vv.c1
    have y2 := vv.c2
    have y3 := vv.c3
    have y4 := vv.c4
    have y5 := vv.c5
    have y6 := vv.c6
    have y7 := vv.c7
    have y8 := vv.c8
    go_simp
    exact ⟨Grown.refl _, rfl⟩
  · intro w' hg _
    refine Or.inl ⟨rfl, ?_⟩
    go_simp
    exact ⟨Grown.refl _, rfl⟩
  · intro w' hg _
    refine Or.inl ⟨rfl, ?_⟩
    have vv := (v1.grown ((Below.refl _ _).drew)).grown hg
    have y0 := vv.c0
    have y1 := vv.c1
    have y2 := vv.c2
    have y3 := vv.c3
    have y4 := vv.c4
    have y5 := vv.c5
    have y6 := vv.c6
    have y7 := vv.c7
    have y8 := vv.c8
    go_simp
    exact ⟨Grown.refl _, rfl⟩
  · intro w' hg _
    refine Or.inl ⟨rfl, ?_⟩
    go_simp
    exact ⟨Grown.refl _, rfl⟩
  · intro w' hg _
    refine Or.inl ⟨rfl, ?_⟩
    have q := (j1.drew.grown hg).at0 0 rfl
    go_simp
    exact ⟨Grown.refl _, rfl⟩
  · intro w' hg _
    refine Or.inl ⟨rfl, ?_⟩
    go_simp
    refine (hls' _).mono ?_
    rintro e w'' ⟨rfl, b9⟩
    exact ⟨_, rfl, b9, rfl⟩
  · intro w' hg _
    refine Or.inl ⟨rfl, ?_⟩
    go_simp
    refine ((peek_is (m1.drew.below hg) As ha2.out.1 V HV.out)).mono ?_
    rintro e w'' ⟨rfl, rfl⟩
    exact ⟨_, rfl, Grown.refl _, rfl⟩
  · intro w' hg _
    refine Or.inl ⟨rfl, ?_⟩
    go_simp
    refine (hs _).mono ?_
    rintro e w'' ⟨rfl, b9⟩
    exact ⟨_, rfl, b9, rfl⟩
  · intro w' hg _
    refine Or.inl ⟨rfl, ?_⟩
    have hz : Sz ≤ w'.heap.size := by have := hg.size; have e : W.drew.heap.size = W.heap.size := rfl; omega
    have q := At.new w' 53 [.int .i64 0, .int .i64 0, .int .i64 0, .int .i64 0]
    go_simp
    exact ⟨grow_alloc (Below.refl _ _) _, _, rfl, hz, q⟩
  intro vX w8 hg hf
  obtain ⟨S, rfl, hXS, q8⟩ := hf.1
  have hBS : Hid (B ≠ S) := by have := j1.lt; unfold Hid; omega
  have hLS : Hid (¬ L.has S) := fun hh => by have := m1.lt _ hh; omega
  have hES : Hid (¬ w.heap.size = S) := by have := hBw.out; have := j1.lt; unfold Hid; omega
  have hwS : Hid (w.heap.size < S) := by have := b1.size; have := hBw.out; have := j1.lt; unfold Hid; omega
  have m8 := (((((m1.drew.below hg).setIn hLS.out 0 (.int .i64 1)).setIn hLS.out 1 (.int .i64 a)).setIn hLS.out 2 (.int .i64 G)).setIn hLS.out 3 (.int .i64 0))
  have v8 := ((((((v1.grown ((Below.refl _ _).drew)).grown hg).setIn hES.out 0 (.int .i64 1)).setIn hES.out 1 (.int .i64 a)).setIn hES.out 2 (.int .i64 G)).setIn hES.out 3 (.int .i64 0))
  have j8 := (((((j1.drew.grown hg).other hBS.out 0 (.int .i64 1)).other hBS.out 1 (.int .i64 a)).other hBS.out 2 (.int .i64 G)).other hBS.out 3 (.int .i64 0))
  have b8' : Below w.heap.size w w8 := grow b1.drew hg
  have b8 := (below_setIn (below_setIn (below_setIn (below_setIn b8' (Nat.le_of_lt hwS.out) 0 (.int .i64 1)) (Nat.le_of_lt hwS.out) 1 (.int .i64 a)) (Nat.le_of_lt hwS.out) 2 (.int .i64 G)) (Nat.le_of_lt hwS.out) 3 (.int .i64 0))
  have s8 := ((((q8.put0 0 (.int .i64 1)).put0 1 (.int .i64 a)).put0 2 (.int .i64 G)).put0 3 (.int .i64 0))
  have q0 := q8.at0 0 rfl
  have q1 := q8.at0 1 rfl
  have q2 := q8.at0 2 rfl
  have q3 := q8.at0 3 rfl
  have qf := q8.fz
  have r7 := v8.c7
  have t0 := s8.at0 0 rfl
  have t1 := s8.at0 1 rfl
  have t2 := s8.at0 2 rfl
  have t3 := s8.at0 3 rfl
  have u0 := j8.at0 0 rfl
  have u1 := j8.at0 1 rfl
  clear hf hg hXS hSz
  go_wp2_with (first
    | (go_at_call 10; refine (peek_is m8 a (by have := ha1.out; omega) D HW.out).mono ?_; rintro e w9 ⟨rfl, rfl⟩)
    | (go_at_call 19; refine (hd _).mono ?_; rintro e w10 ⟨rfl, b10⟩; have s10 := (s8.grown b10).grown (grow_alloc (Below.refl _ _) (.cells #[.int .i64 2, .int .i64 Z, .int .i64 x, .int .i64 G, .bool own] 56)); have j10 := (j8.grown b10).grown (grow_alloc (Below.refl _ _) (.cells #[.int .i64 2, .int .i64 Z, .int .i64 x, .int .i64 G, .bool own] 56)); have z0 := s10.at0 0 rfl; have z1 := s10.at0 1 rfl; have z2 := s10.at0 2 rfl; have z3 := s10.at0 3 rfl; have z4 := j10.at0 0 rfl; have z5 := j10.at0 1 rfl))
  refine wp_over (fun W => MemAt W L s ∧ BoxV W w.heap.size t n k m 100 600 3 L.p 0 ∧ At W S 0 53 _ [.int .i64 1, .int .i64 a, .int .i64 G, .int .i64 0] ∧ Below w.heap.size w W) ⟨(m8.below b10).alloc _, (v8.grown b10).grown (grow_alloc (Below.refl _ _) _), s10, grow_alloc (grow b8 b10) _⟩ ?_
  clear z0 z1 z2 z3 z4 z5 s10 j10 b10 u0 u1 t0 t1 t2 t3 r7 qf q0 q1 q2 q3 s8 b8 b8' j8 v8 m8 q8 m1 v1 j1 b1 hs hd HW HV hls' hBS hLS hES hwS
  rintro W2 ⟨m1, v1, j1, b1⟩
  have r7 := v1.c7
  have r8 := j1.at0 1 rfl
  go_loopw [13] (fun i wr => ∃ j : Nat, i = .int .i64 j ∧ j ≤ Z ∧ wr = W2) (fun i _ => Z - (intOf i).toNat)
  case atStart => exact ⟨0, rfl, Nat.zero_le _, by first | rfl | trivial⟩
  case round =>
    obtain ⟨j, rfl, hjZ, hwr⟩ := hrel
    subst hwr
    by_cases hj : j < Z
    · have hj' : (j : Int) < (Z : Int) := by omega
      have hz0 : s.wd (a + (j + 1)) = 0 := HN.out (j + 1) (by omega) (by omega)
      have HZ0 : Hid (s.wd (a + (j + 1)) = 0) := hz0
      clear hz0
      have pk : ∀ A : Int, A = ((a + (j + 1) : Nat) : Int) → Calls Try.prog 10 #[.pointer (some ⟨L.p, 0, none⟩), .int .i64 A] wr fun e w' => e = .returned (.int .u64 0) ∧ w' = wr := fun A hA => by
        subst hA
        exact peek_is m1 (a + (j + 1)) (by have := ha1.out; omega) 0 HZ0.out
      go_wp2_with (go_at_call 10; refine (pk _ (by omega)).mono ?_; rintro e w9 ⟨rfl, rfl⟩)
      go_roundw
      case rel => exact ⟨j + 1, by go_num, by omega, by first | rfl | trivial⟩
      case measure => simp [intOf]; omega
    · have hj' : ¬ (j : Int) < (Z : Int) := by omega
      go_wp2
      obtain ⟨Sz, hSz⟩ : ∃ Sz, wr.heap.size = Sz := ⟨_, rfl⟩
      refine wp_region_rely_tail Grown 13 [.val (.pointer (some ⟨w.heap.size, 7, none⟩)), .val (.pointer (some ⟨L.p, 0, none⟩)), .val (.pointer (some ⟨w.heap.size, 0, none⟩)), .val (.agg #[.int .i64 t, .int .i64 n, .int .i64 k, .int .i64 m, .int .i64 100, .int .i64 600, .int .i64 3]), .val (.pointer (some ⟨w.heap.size, 0, none⟩)), .val (.agg #[.int .i64 t, .int .i64 n, .int .i64 k, .int .i64 m, .int .i64 100, .int .i64 600, .int .i64 3]), .val (.pointer (some ⟨S, 1, none⟩)), .val (.int .i64 a), .val (.int .i64 i), .val (.int .i64 Ac), .val (.int .u64 Cw), .val (.agg #[.int .i64 1, .int .i64 κ, .int .i64 Us, .int .i64 Sp]), .that (fun w' v => ∃ X, v = .pointer (some ⟨X, 0, none⟩) ∧ Sz ≤ X ∧ At w' X 0 59 #[.int .i64 0, .int .i64 0, .int .i64 0, .int .i64 0] [.int .i64 0, .int .i64 0, .int .i64 0, .int .i64 0]) ?_] (by kernel_rfl) Grown.refl Grown.trans (by decide) (by kernel_rfl) (by kernel_rfl) (by kernel_rfl) (by kernel_rfl) (by kernel_rfl) (by kernel_rfl) ?_
      · rintro x1 y1 v hg ⟨X, hv, hb, hr⟩
        exact ⟨X, hv, hb, hr.grown hg⟩
      simp only [List.take_succ_cons, List.take_zero, relyAll, Act.put, List.setIfInBounds_toArray, List.set_cons_zero, List.set_cons_succ]
      refine ⟨?_, ?_, ?_, ?_, ?_, ?_, ?_, ?_, ?_, ?_, ?_, ?_, ?_, ?_⟩
      · intro w' hg _
        refine Or.inl ⟨rfl, ?_⟩
        go_simp
        exact ⟨Grown.refl _, rfl⟩
      · intro w' hg _
        refine Or.inl ⟨rfl, ?_⟩
        have vv := (v1.grown ((Below.refl _ _).drew)).grown hg
        have y0 := vv.c0
        have y1 := vv.c1
        have y2 := vv.c2
        have y3 := vv.c3
        have y4 := vv.c4
        have y5 := vv.c5
        have y6 := vv.c6
        have y7 := vv.c7
        have y8 := vv.c8
        go_simp
        exact ⟨Grown.refl _, rfl⟩
      · intro w' hg _
        refine Or.inl ⟨rfl, ?_⟩
        go_simp
        exact ⟨Grown.refl _, rfl⟩
      · intro w' hg _
        refine Or.inl ⟨rfl, ?_⟩
        have vv := (v1.grown ((Below.refl _ _).drew)).grown hg
        have y0 := vv.c0
        have y1 := vv.c1
        have y2 := vv.c2
        have y3 := vv.c3
        have y4 := vv.c4
        have y5 := vv.c5
        have y6 := vv.c6
        have y7 := vv.c7
        have y8 := vv.c8
        go_simp
        exact ⟨Grown.refl _, rfl⟩
      · intro w' hg _
        refine Or.inl ⟨rfl, ?_⟩
        go_simp
        exact ⟨Grown.refl _, rfl⟩
      · intro w' hg _
        refine Or.inl ⟨rfl, ?_⟩
        have vv := (v1.grown ((Below.refl _ _).drew)).grown hg
        have y0 := vv.c0
        have y1 := vv.c1
        have y2 := vv.c2
        have y3 := vv.c3
        have y4 := vv.c4
        have y5 := vv.c5
        have y6 := vv.c6
        have y7 := vv.c7
        have y8 := vv.c8
        go_simp
        exact ⟨Grown.refl _, rfl⟩
      · intro w' hg _
        refine Or.inl ⟨rfl, ?_⟩
        go_simp
        exact ⟨Grown.refl _, rfl⟩
      · intro w' hg _
        refine Or.inl ⟨rfl, ?_⟩
        have q := (j1.drew.grown hg).at0 1 rfl
        go_simp
        exact ⟨Grown.refl _, rfl⟩
      · intro w' hg _
        refine Or.inl ⟨rfl, ?_⟩
        go_simp
        refine (hlo _).mono ?_
        rintro e w'' ⟨rfl, b9⟩
        exact ⟨_, rfl, b9, rfl⟩
      · intro w' hg _
        refine Or.inl ⟨rfl, ?_⟩
        go_simp
        refine (hlc' _).mono ?_
        rintro e w'' ⟨rfl, b9⟩
        exact ⟨_, rfl, b9, rfl⟩
      · intro w' hg _
        refine Or.inl ⟨rfl, ?_⟩
        go_simp
        refine ((peek_is (m1.drew.below hg) Ac ha2.out.2 Cw HC.out)).mono ?_
        rintro e w'' ⟨rfl, rfl⟩
        exact ⟨_, rfl, Grown.refl _, rfl⟩
      · intro w' hg _
        refine Or.inl ⟨rfl, ?_⟩
        go_simp
        refine (hc _).mono ?_
        rintro e w'' ⟨rfl, b9⟩
        exact ⟨_, rfl, b9, rfl⟩
      · intro w' hg _
        refine Or.inl ⟨rfl, ?_⟩
        have hz : Sz ≤ w'.heap.size := by have := hg.size; have e : wr.drew.heap.size = wr.heap.size := rfl; omega
        have q := At.new w' 59 [.int .i64 0, .int .i64 0, .int .i64 0, .int .i64 0]
        go_simp
        exact ⟨grow_alloc (Below.refl _ _) _, _, rfl, hz, q⟩
      intro vX w8 hg hf
      obtain ⟨Y, rfl, hXS, q8⟩ := hf.1
      have hES : Hid (¬ w.heap.size = Y) := by have hlt : w.heap.size < wr.heap.size := World.block_lt_of_cell? _ _ v1.c0; unfold Hid; omega
      have hwS : Hid (w.heap.size < Y) := by have hlt : w.heap.size < wr.heap.size := World.block_lt_of_cell? _ _ v1.c0; unfold Hid; omega
      have b8' : Below w.heap.size w w8 := grow b1.drew hg
      have b8 := (below_setIn (below_setIn (below_setIn (below_setIn b8' (Nat.le_of_lt hwS.out) 0 (.int .i64 1)) (Nat.le_of_lt hwS.out) 1 (.int .i64 κ)) (Nat.le_of_lt hwS.out) 2 (.int .i64 Us)) (Nat.le_of_lt hwS.out) 3 (.int .i64 Sp))
      have s8 := ((((q8.put0 0 (.int .i64 1)).put0 1 (.int .i64 κ)).put0 2 (.int .i64 Us)).put0 3 (.int .i64 Sp))
      have q0 := q8.at0 0 rfl
      have q1 := q8.at0 1 rfl
      have q2 := q8.at0 2 rfl
      have q3 := q8.at0 3 rfl
      have qf := q8.fz
      clear hf hg hXS hSz
      go_wp2
      refine wp_over (fun W => At W Y 0 59 _ [.int .i64 1, .int .i64 κ, .int .i64 Us, .int .i64 Sp] ∧ Below w.heap.size w W) ⟨s8, b8⟩ ?_
      clear q0 q1 q2 q3 qf s8 b8 b8' q8 m1 v1 j1 b1 hES hwS hc hlo hlc' HC r7 r8
      rintro W3 ⟨j1, b1⟩
      have g0 := fun N : Later W3 => (j1.grown N.below).at0 0 rfl
      have g1 := fun N : Later W3 => (j1.grown N.below).at0 1 rfl
      haveI := Later.exists W3
      refine wp_region_later (by kernel_rfl) (by kernel_rfl) ?_
      repeat (go_big_quiet_step ((go_at_call 6; exact Calls.later (hcls _))))
      refine wpQuiet_nil ?_
      rintro _ ⟨nq, rfl⟩
      clear g0 g1
      go_wp2
      go_ret
      exact ⟨rfl, grow b1 nq.below⟩

end Go.Proofs.Ytocmkmeikcejjaa
