/- AllocShares answers true for every number and all slices of numbers, and leaves what was in memory. -/
import Derived.Test.YtemembcefplgcaaAllocThree
namespace Go.Proofs.Ytemembcefplgcaa
open Go.RowKit

theorem three (v : Value) (i : Nat) (hi : i < 3) : (#[v, v, v] : Array Value)[i]? = some v := by
  have : i = 0 ∨ i = 1 ∨ i = 2 := by omega
  rcases this with rfl | rfl | rfl <;> rfl

theorem upd_twice {θ : Nat → Wh} (j : Nat) (u v : Wh) : upd (upd θ j u) j v = upd θ j v := upd_upd θ j u v

/-- an append whose outcome is known, at its place in a list of operations -/
theorem wpList_ran {P : Program} {ops : Array Oper} {rest : List Oper} {o : Oper} {a : Act} {Q : Exit → Act → World → Prop} {w w' : World} {v vx v' : Value} {t : TypeId} (hg : o.guard = none) (s x : Operand)
    (hop : o.op = Op.call { callee := Callee.builtin Builtin.append, args := #[s, x], argTypes := #[t, t] }) (hs : a.eval s = v) (hx : a.eval x = vx)
    (hrun : (Builtin.append_ #[t, t] o.type #[v, vx]).run P w = .ok v' w') (hK : wpList P ops Q rest (a.put o.dst v') w') : wpList P ops Q (o :: rest) a w := by
  refine wpList_plain hg fun K hK' => ?_
  unfold Oper.wp
  simp [execOp, hop, resolve, invoke, builtin, hs, hx, hrun, Result.andThen]
  exact hK' _ _ hK

theorem low15 (x : Int) : ∃ Z : Nat, (1 : Int) + bits .and .i64 x 15 = (Z : Int) ∧ 1 ≤ Z ∧ Z ≤ 16 := by
  obtain ⟨Z, h1, h2, h3⟩ := lowAt x 15 4 1 (by decide) (by decide)
  exact ⟨Z, h1, h2, by omega⟩

set_option maxRecDepth 20000 in
set_option maxHeartbeats 16000000 in
theorem allocShares_any (slots : Int) (co : Option Addr) (NC ccap : Nat) (zc : Nat → Int) (ao : Option Addr) (N cap0 : Nat) (z : Nat → Int) (w : World) (hc : IntsAt .i64 w co NC zc) (hr : IntsAt .i64 w ao N z) (hN63 : N ≤ 9223372036854775807) :
    Calls Try.prog 4 #[.int .i64 slots, .slice co NC ccap, .slice ao N cap0] w fun e w' => e = .returned (.bool true) ∧ Below w.heap.size w w' := by
  have HR : Hid (IntsAt .i64 w ao N z) := hr
  have HC : Hid (IntsAt .i64 w co NC zc) := hc
  clear hr hc
  obtain ⟨n, hn, hn1, hn8⟩ := lowAt slots 7 3 1 (by decide) (by decide)
  have hn' : (1 : Int) + bits .and .i64 slots 7 = (n : Int) := hn
  clear hn
  have hG : Good 4 n 6 20 100 600 3 := goodp (by omega) (by omega) (by omega) (by omega)
  have HG : Hid (Good 4 n 6 20 100 600 3) := hG
  have AR := fun w => arena08 hG (by omega) w
  clear hG
  have hw200 : ∃ B2 : Int, IntKind.i64.wrap ((N : Int) + 200) = B2 ∧ (B2 = (N : Int) + 200 ∨ B2 ≤ 0) := by
    refine ⟨_, rfl, ?_⟩
    rw [IntKind.wrap_i64]; omega
  obtain ⟨B2, hB2, hB2c⟩ := hw200
  go_enter Try.func4, Try.ntmps4
  go_wp2_with (first
    | (go_at_call 8; refine (AR _).mono ?_; rintro e w1 ⟨L, s, rfl, m1, t1, b1, f1⟩; obtain ⟨p1, pa⟩ := Camp.first HG.out m1 t1 (calm0 4 n 6 20) b1 f1)
    | (go_at_call 9; refine (awake08_any _).mono ?_; rintro e w2 ⟨rfl, b2⟩; have p2 := (p1.grown b2).site))
  have FA : Hid (PlotApart w L w1.heap.size 4 n 6 20) := pa
  obtain ⟨E, hE⟩ : ∃ E, w1.heap.size = E := ⟨_, rfl⟩
  obtain ⟨A, hA⟩ : ∃ A, w2.heap.size = A := ⟨_, rfl⟩
  rw [hE] at FA p2 ⊢
  rw [hA]
  have rA := World.rowIs_alloc w2 #[.pointer none, .pointer none, .pointer none] 43 (fun _ => .pointer none) (three _)
  have rC := World.rowIs_alloc (w2.alloc (.cells #[.pointer none, .pointer none, .pointer none] 43)) #[.int .i64 0, .int .i64 0, .int .i64 0] 44 (fun _ => .int .i64 0) (three _)
  rw [Go.Deep.nblk_alloc] at rC
  rw [hA] at rA rC
  have p3 := ((p2.alloc (.cells #[.pointer none, .pointer none, .pointer none] 43)).alloc (.cells #[.int .i64 0, .int .i64 0, .int .i64 0] 44)).alloc (.cells #[] 50)
  have prs : Prs (((w2.alloc (.cells #[.pointer none, .pointer none, .pointer none] 43)).alloc (.cells #[.int .i64 0, .int .i64 0, .int .i64 0] 44)).alloc (.cells #[] 50)) (A + 1 + 1) 0 [] := by
    refine ⟨⟨#[], ?_, by simp, fun i u hu => by simp [flat] at hu⟩, Nat.le_refl _⟩
    have := Go.Deep.blk_alloc_new ((w2.alloc (.cells #[.pointer none, .pointer none, .pointer none] 43)).alloc (.cells #[.int .i64 0, .int .i64 0, .int .i64 0] 44)) (.cells #[] 50)
    rw [Go.Deep.nblk_alloc, Go.Deep.nblk_alloc, hA] at this
    exact this
  have SA : Hid (ThreeApart w L E A (A + 1) (A + 1 + 1) n) := by
    have h1 := p2.ltE
    have h2 : ∀ k, L.has k → k < A := fun k hk => by have := p2.mm.lt _ hk; omega
    have h3 := p2.b.size
    exact ⟨FA.out, fun hh => by have := h2 _ hh; omega, fun hh => by have := h2 _ hh; omega, by omega, by omega, by omega, by omega, by omega, fun k hk => by have := h2 k hk; omega, by omega, by omega, by omega, by omega⟩
  have hF0 : (Q.new n).F.length = n := upFrom_len n n
  have S0 : Hid (Three w (((w2.alloc (.cells #[.pointer none, .pointer none, .pointer none] 43)).alloc (.cells #[.int .i64 0, .int .i64 0, .int .i64 0] 44)).alloc (.cells #[] 50)) L E A (A + 1) (A + 1 + 1) n s (1 + 2 * n) (Q.new n) (fun _ => .nil) (fun _ => 0) (A + 1 + 1) 0 [] ∧ A + 1 + 1 < (((w2.alloc (.cells #[.pointer none, .pointer none, .pointer none] 43)).alloc (.cells #[.int .i64 0, .int .i64 0, .int .i64 0] 44)).alloc (.cells #[] 50)).heap.size ∧ Jam n (Q.new n) (1 + 2 * n) (fun _ => 0) (fun _ => .nil) []) :=
    ⟨⟨p3, (rA.alloc _).alloc _, rC.alloc _, (fun j hj b Z κ α e => by cases e), (fun i j _ _ _ b Z κ α b' Z' κ' α' e => by cases e), prs, Nat.le_refl _⟩, prs.lt, jam0 n _ hF0⟩
  clear p3 rA rC p2 p1 pa m1 t1 b1 f1 b2 AR hE hA hn' prs FA hF0
  obtain ⟨C, hC⟩ : ∃ C, A + 1 = C := ⟨_, rfl⟩
  obtain ⟨M, hM⟩ : ∃ M, C + 1 = M := ⟨_, rfl⟩
  rw [hC, hM] at SA S0
  rw [hC, hM]
  clear hC hM
  go_loopw [12, 13, 14] (fun av mv j wr => ∃ (r a pb cap : Nat) (s2 : Mm) (σ : Nat) (q : Q) (ow : Nat → Nat) (θ : Nat → Wh) (cl : Nat → Nat) (ms : List Ob), av = .int .i64 a ∧ mv = .slice (some ⟨pb, 0, none⟩) ms.length cap ∧ j = .int .i64 r ∧ a ≤ r ∧ r ≤ 700 ∧ σ ≤ 1 + 2 * n + r ∧ Three w wr L E A C M n s2 σ q θ cl pb cap (ms.map (fun o => (packH (o.x : Int) 1, (o.Z : Int)))) ∧ M < wr.heap.size ∧ Jam n q σ ow θ ms) (fun _ _ j _ => 700 - (intOf j).toNat)
  case atStart => exact ⟨0, 0, M, 0, s, 1 + 2 * n, _, _, _, _, [], rfl, rfl, rfl, by omega, by omega, by omega, S0.out.1, S0.out.2.1, S0.out.2.2⟩
  case round =>
    clear S0
    obtain ⟨r, a, pb, cap, s2, σ, q, ow, θ, cl, ms, rfl, rfl, rfl, har, hr700, hσ, S, hMs, J⟩ := hrel
    have hml : ms.length ≤ n := by have := J.sum; omega
    by_cases hr' : (r : Int) < B2 ∧ r < 700
    · obtain ⟨hrB, hr7⟩ := hr'
      have hr7' : (r : Int) < 700 := by omega
      by_cases hrN : r < N
      · have hrN' : (r : Int) < (N : Int) := by omega
        have hrNg : ¬ (N : Int) ≤ (r : Int) := by omega
        by_cases hr4 : r < 400
        · have hr4' : (r : Int) < 400 := by omega
          obtain ⟨zb, zo, rfl, hz0⟩ := HR.out r hrN
          have hz := keep' S.f.b hz0
          obtain ⟨j, hj1, hj2, hj, hj3, hj4⟩ := pick3 (z r)
          clear hz0
          have hj' : (j : Int) < 3 := by omega
          have SS : Hid (Three w wr L E A C M n s2 σ q θ cl pb cap (ms.map (fun o => (packH (o.x : Int) 1, (o.Z : Int))))) := S
          have JJ : Hid (Jam n q σ ow θ ms) := J
          have qa := S.a.cell (i := j) hj
          clear S J
          cases hθ : θ j with
          | nil =>
            rw [hθ] at qa
            simp only [Wh.v] at qa
            by_cases haN' : a < NC
            · have haN2 : (a : Int) < (NC : Int) := by omega
              have haN3 : ¬ (NC : Int) ≤ (a : Int) := by omega
              obtain ⟨cb, cq, rfl, hc0⟩ := HC.out a haN'
              have hc := keep' SS.out.f.b hc0
              obtain ⟨Z, hZ, hZ1, hZ16⟩ := low15 (zc a)
              obtain ⟨κ, hkz, hκ⟩ := class_of hZ1 hZ16
              have qc := SS.out.c.cell (i := j) hj
              have qcf := SS.out.c.frozen j
              have S1 := SS.out.begin SA.out (Nat.le_of_lt hMs) (j := j) (Z := Z) (κ := κ) hθ
              rw [Go.Deep.nblk_setCell] at S1
              have qa2 : ((wr.setCell ⟨C, j, none⟩ (.int .i64 Z)).alloc (alloc0 Z false)).cell? ⟨A, j, none⟩ = some (.pointer none) := by
                have h1 := (SS.out.a.setOther (a := ⟨C, j, none⟩) SA.out.ac (.int .i64 (Z : Int))).alloc (alloc0 Z false)
                have h2 := h1.cell (i := j) hj
                rw [hθ] at h2
                exact h2
              have qaf2 : ∀ i, ((wr.setCell ⟨C, j, none⟩ (.int .i64 Z)).alloc (alloc0 Z false)).frozen? ⟨A, i, none⟩ = false := ((SS.out.a.setOther (a := ⟨C, j, none⟩) SA.out.ac (.int .i64 (Z : Int))).alloc (alloc0 Z false)).frozen
              have qc2 : (wr.setCell ⟨C, j, none⟩ (.int .i64 Z)).cell? ⟨C, j, none⟩ = some (.int .i64 Z) := by
                have := (SS.out.c.set j (.int .i64 (Z : Int))).cell (i := j) hj
                simpa using this
              have J1 := JJ.out.begin (b := wr.heap.size) hj hθ hκ hkz hZ1 hZ16
              clear hc0
              go_wp2_with (go_at_call 16; refine (newAlloc_any Z false _).mono ?_; rintro e w5 ⟨rfl, rfl⟩)
              obtain ⟨b, hb⟩ : ∃ b, wr.heap.size = b := ⟨_, rfl⟩
              rw [hb] at S1 J1 ⊢
              refine wp_over (fun W => Three w W L E A C M n s2 σ q (upd θ j (.at b Z κ (.take .idle))) (upd cl j Z) pb cap (ms.map (fun o => (packH (o.x : Int) 1, (o.Z : Int))))) (by exact S1) ?_
              have JB : Hid (Jam n q σ ow (upd θ j (.at b Z κ (.take .idle))) ms) := J1
              clear qa hz qc qcf qa2 qaf2 qc2 S1 SS JJ J1 hb hc hMs
              rintro W S1
              have SB : Hid (Three w W L E A C M n s2 σ q (upd θ j (.at b Z κ (.take .idle))) (upd cl j Z) pb cap (ms.map (fun o => (packH (o.x : Int) 1, (o.Z : Int))))) := S1
              have hMs : M < W.heap.size := Nat.lt_of_le_of_lt S1.pm S1.p.lt
              clear S1
              obtain ⟨hgd, ho, hκ, hkz, hz1, hz2, -⟩ : (Al.take .idle).good 4 n 6 20 κ σ q ∧ (Al.take .idle).over? = false ∧ κ < 4 ∧ classOf Z = κ ∧ 1 ≤ Z ∧ Z ≤ 16 ∧ True := by
                have h9 := JB.out.ok j hj
                rw [upd_same] at h9
                exact ⟨h9.1, h9.2.1, h9.2.2.1, h9.2.2.2.1, h9.2.2.2.2.1, h9.2.2.2.2.2.1, trivial⟩
              obtain ⟨⟨q', α'⟩, ht⟩ : ∃ p, alTurn 4 n 6 20 κ Z false σ q (.take .idle) = p := ⟨_, rfl⟩
              have HT : Hid (alTurn 4 n 6 20 κ Z false σ q (.take .idle) = (q', α')) := ht
              have HGd : Hid ((Al.take .idle).good 4 n 6 20 κ σ q) := hgd
              have HO : Hid ((Al.take .idle).over? = false) := ho
              have HKZ : Hid (classOf Z = κ) := hkz
              have HTH : Hid ((upd θ j (.at b Z κ (.take .idle))) j = .at b Z κ (.take .idle)) := by unfold Hid; exact upd_same _ _ _
              clear hgd ho hkz ht
              cases hd : α'.over? with
              | false =>
                refine wp_region_rely_tail Grown 4 [.val (.int .i64 j), .val (.pointer (some ⟨A, j, none⟩)), .val (.pointer (some ⟨b, 0, none⟩)), .val (.agg #[.int .i64 4, .int .i64 n, .int .i64 6, .int .i64 20, .int .i64 100, .int .i64 600, .int .i64 3, .pointer (some ⟨L.p, 0, none⟩), .int .i64 0])] (by kernel_rfl) Grown.refl Grown.trans (by decide) (by kernel_rfl) (by kernel_rfl) (by kernel_rfl) (by kernel_rfl) (by kernel_rfl) (by kernel_rfl) ?_
                simp only [List.take_succ_cons, List.take_zero, relyAll, Act.put, List.setIfInBounds_toArray, List.set_cons_zero, List.set_cons_succ]
                refine ⟨?_, ?_, ?_, ?_, ?_⟩
                · intro w' hg _
                  refine Or.inl ⟨rfl, ?_⟩
                  go_simp
                  exact ⟨Grown.refl _, rfl⟩
                · intro w' hg _
                  refine Or.inl ⟨rfl, ?_⟩
                  go_simp
                  exact ⟨Grown.refl _, rfl⟩
                · intro w' hg _
                  refine Or.inl ⟨rfl, ?_⟩
                  have q1 := (SB.out.grown ((Below.refl _ _).drew)).grown hg
                  have qa := q1.a.cell (i := j) hj
                  rw [upd_same] at qa
                  simp only [Wh.v] at qa
                  go_simp
                  exact ⟨Grown.refl _, rfl⟩
                · intro w' hg _
                  refine Or.inl ⟨rfl, ?_⟩
                  have vv := ((SB.out.grown ((Below.refl _ _).drew)).grown hg).f.v
                  have y0 := vv.c0
                  have y1 := vv.c1
                  have y2 := vv.c2
                  have y3 := vv.c3
                  have y4 := vv.c4
                  have y5 := vv.c5
                  have y6 := vv.c6
                  have y7 := vv.c7
                  have y8 := vv.c8
                  go_simp
                  exact ⟨Grown.refl _, rfl⟩
                intro w5 hg _
                have S5 := (SB.out.grown ((Below.refl _ _).drew)).grown hg
                have hMs5 : M < w5.heap.size := by have := hg.size; have e : (World.heap (World.drew W)).size = W.heap.size := rfl; omega
                clear hg
                go_wp2_with (go_at_call 17; refine (S5.step SA.out hj HTH.out (by omega) HGd.out HO.out hκ HKZ.out hz2 HT.out hd).mono ?_; rintro e w6 ⟨rfl, s6, S6, gd6⟩)
                have hMs6 : M < w6.heap.size := Nat.lt_of_le_of_lt S6.pm S6.p.lt
                obtain ⟨ow', J6⟩ := (JB.out.step hj HTH.out HT.out gd6).1 hd
                go_roundw
                case rel => exact ⟨r + 1, (a + 1), pb, cap, s6, σ + 1, q', ow', _, (upd cl j Z), ms, by go_num, rfl, by go_num, by omega, by omega, by omega, S6, hMs6, J6⟩
                case measure => simp [intOf]; omega
              | true =>
                obtain ⟨E9, H9, st9, rfl⟩ : ∃ E9 H9 st9, α' = .over E9 H9 st9 := by
                  cases α' with
                  | over E9 H9 st9 => exact ⟨E9, H9, st9, rfl⟩
                  | _ => cases hd
                by_cases hE9 : E9 = 0
                · subst hE9
                  refine wp_region_rely_tail Grown 4 [.val (.int .i64 j), .val (.pointer (some ⟨A, j, none⟩)), .val (.pointer (some ⟨b, 0, none⟩)), .val (.agg #[.int .i64 4, .int .i64 n, .int .i64 6, .int .i64 20, .int .i64 100, .int .i64 600, .int .i64 3, .pointer (some ⟨L.p, 0, none⟩), .int .i64 0])] (by kernel_rfl) Grown.refl Grown.trans (by decide) (by kernel_rfl) (by kernel_rfl) (by kernel_rfl) (by kernel_rfl) (by kernel_rfl) (by kernel_rfl) ?_
                  simp only [List.take_succ_cons, List.take_zero, relyAll, Act.put, List.setIfInBounds_toArray, List.set_cons_zero, List.set_cons_succ]
                  refine ⟨?_, ?_, ?_, ?_, ?_⟩
                  · intro w' hg _
                    refine Or.inl ⟨rfl, ?_⟩
                    go_simp
                    exact ⟨Grown.refl _, rfl⟩
                  · intro w' hg _
                    refine Or.inl ⟨rfl, ?_⟩
                    go_simp
                    exact ⟨Grown.refl _, rfl⟩
                  · intro w' hg _
                    refine Or.inl ⟨rfl, ?_⟩
                    have q1 := (SB.out.grown ((Below.refl _ _).drew)).grown hg
                    have qa := q1.a.cell (i := j) hj
                    rw [upd_same] at qa
                    simp only [Wh.v] at qa
                    go_simp
                    exact ⟨Grown.refl _, rfl⟩
                  · intro w' hg _
                    refine Or.inl ⟨rfl, ?_⟩
                    have vv := ((SB.out.grown ((Below.refl _ _).drew)).grown hg).f.v
                    have y0 := vv.c0
                    have y1 := vv.c1
                    have y2 := vv.c2
                    have y3 := vv.c3
                    have y4 := vv.c4
                    have y5 := vv.c5
                    have y6 := vv.c6
                    have y7 := vv.c7
                    have y8 := vv.c8
                    go_simp
                    exact ⟨Grown.refl _, rfl⟩
                  intro w5 hg _
                  have S5 := (SB.out.grown ((Below.refl _ _).drew)).grown hg
                  have hMs5 : M < w5.heap.size := by have := hg.size; have e : (World.heap (World.drew W)).size = W.heap.size := rfl; omega
                  clear hg
                  go_wp2_with (first
                    | (go_at_call 17; refine (S5.step SA.out hj HTH.out (by omega) HGd.out HO.out hκ HKZ.out hz2 HT.out rfl).mono ?_; rintro e w6 ⟨rfl, s6, S6, gd6⟩; have qa6 := S6.a.cell (i := j) hj; rw [upd_same] at qa6; simp only [Wh.v] at qa6; have dn := (S6.th j hj b Z κ _ (upd_same _ _ _)).1.done)
                    | (go_at_call 18; refine dn.mono ?_; rintro e w7 ⟨rfl, b7⟩; have S8 := (S6.grown b7).grown (grow_alloc (Below.refl _ _) (.cells #[.int .i64 0, .int .u64 H9, .int .i64 0, .int .i64 st9] 36)); have d8 := At.new w7 36 [.int .i64 0, .int .u64 H9, .int .i64 0, .int .i64 st9]; have qa8 := S8.a.cell (i := j) hj; have qaf := S8.a.frozen; have hDA : w7.heap.size ≠ A := by { have := (S6.grown b7).a.lt; omega }; have d9 := d8.other hDA j (.pointer none); have dE := d9.at0 0 rfl))
                  obtain ⟨o9, hH9, hZ9, J6⟩ := (JB.out.step hj HTH.out HT.out gd6).2.2 H9 st9 rfl
                  have S9 := S8.drop SA.out (j := j)
                  simp only [upd_twice] at S9
                  try simp only [upd_twice] at J6
                  obtain ⟨D, hD⟩ : ∃ D, w7.heap.size = D := ⟨_, rfl⟩
                  rw [hD] at d9 ⊢
                  have hclj : ((upd cl j Z)) j = Z := (S6.th j hj b Z κ _ (upd_same _ _ _)).2.2.1
                  refine wp_over (fun W => Three w W L E A C M n s6 (σ + 1) q' (upd θ j .nil) ((upd cl j Z)) pb cap (ms.map (fun o => (packH (o.x : Int) 1, (o.Z : Int)))) ∧ At W D 0 36 _ [.int .i64 0, .int .u64 H9, .int .i64 0, .int .i64 st9]) (by exact ⟨S9, d9⟩) ?_
                  clear S9 d9 d8 S8 S6 S5 dn qa6 qa8 qaf dE hDA b7 gd6 hD
                  rintro W ⟨S9, d9⟩
                  obtain ⟨Sz, hSz⟩ : ∃ Sz, W.heap.size = Sz := ⟨_, rfl⟩
                  have hcell9 := S9.c.cell (i := j) hj
                  refine wp_region_rely_tail Grown 8 [.val (.slice (some ⟨pb, 0, none⟩) ms.length cap), .val (.pointer (some ⟨D, 1, none⟩)), .val (.int .u64 H9), .val (.int .i64 j), .val (.pointer (some ⟨C, j, none⟩)), .val (.int .i64 Z), .val (.agg #[.int .u64 H9, .int .i64 Z]), .that (fun w' v => ∃ G, v = .slice (some ⟨G, 0, none⟩) 1 1 ∧ Sz ≤ G ∧ w'.cell? ⟨G, 0, none⟩ = some (.int .u64 H9) ∧ w'.cell? ⟨G, 1, none⟩ = some (.int .i64 Z)) ?_] (by kernel_rfl) Grown.refl Grown.trans (by decide) (by kernel_rfl) (by kernel_rfl) (by kernel_rfl) (by kernel_rfl) (by kernel_rfl) (by kernel_rfl) ?_
                  · rintro x1 y1 v hg ⟨G, hv, hb, h0, h1⟩
                    exact ⟨G, hv, hb, keep' hg h0, keep' hg h1⟩
                  simp only [List.take_succ_cons, List.take_zero, relyAll, Act.put, List.setIfInBounds_toArray, List.set_cons_zero, List.set_cons_succ]
                  refine ⟨?_, ?_, ?_, ?_, ?_, ?_, ?_, ?_, ?_⟩
                  · intro w' hg _
                    refine Or.inl ⟨rfl, ?_⟩
                    go_simp
                    exact ⟨Grown.refl _, rfl⟩
                  · intro w' hg _
                    refine Or.inl ⟨rfl, ?_⟩
                    go_simp
                    exact ⟨Grown.refl _, rfl⟩
                  · intro w' hg _
                    refine Or.inl ⟨rfl, ?_⟩
                    have q1 := (d9.drew.grown hg).at0 1 rfl
                    go_simp
                    exact ⟨Grown.refl _, rfl⟩
                  · intro w' hg _
                    refine Or.inl ⟨rfl, ?_⟩
                    go_simp
                    exact ⟨Grown.refl _, rfl⟩
                  · intro w' hg _
                    refine Or.inl ⟨rfl, ?_⟩
                    go_simp
                    exact ⟨Grown.refl _, rfl⟩
                  · intro w' hg _
                    refine Or.inl ⟨rfl, ?_⟩
                    have q1 := ((S9.grown ((Below.refl _ _).drew)).grown hg).c.cell (i := j) hj
                    rw [hclj] at q1
                    go_simp
                    exact ⟨Grown.refl _, rfl⟩
                  · intro w' hg _
                    refine Or.inl ⟨rfl, ?_⟩
                    go_simp
                    exact ⟨Grown.refl _, rfl⟩
                  · intro w' hg _
                    refine Or.inl ⟨rfl, ?_⟩
                    have hz : Sz ≤ w'.heap.size := by have := hg.size; have e : W.drew.heap.size = W.heap.size := rfl; omega
                    go_simp
                    exact ⟨grow_alloc (Below.refl _ _) _, _, rfl, hz, by simp, by simp⟩
                  intro vG w8 hg hf
                  obtain ⟨G, rfl, hGS, hG0, hG1⟩ := hf.1
                  have S10 := (S9.grown ((Below.refl _ _).drew)).grown hg
                  have hMs10 : M < w8.heap.size := Nat.lt_of_le_of_lt S10.pm S10.p.lt
                  obtain ⟨b', cap', w9, hrun, hp9, o9', hb9⟩ := S10.p.app G H9 Z hG0 hG1 (by simp; omega) 45
                  rw [List.length_map] at hrun
                  have S11 := S10.more SA.out o9' hp9 hb9 (by omega)
                  have hMs11 : M < w9.heap.size := Nat.lt_of_le_of_lt S11.pm S11.p.lt
                  have hll : ms.map (fun o => (packH (o.x : Int) 1, (o.Z : Int))) ++ [(H9, (Z : Int))] = (ms ++ [o9]).map (fun o => (packH (o.x : Int) 1, (o.Z : Int))) := by
                    rw [List.map_append, hH9, ← hZ9]
                    rfl
                  rw [hll] at S11
                  have hln : ms.length + 1 = (ms ++ [o9]).length := by simp
                  rw [hln] at hrun
                  clear hf hg S9 d9 hSz hcell9 hGS hG0 hG1 hll hp9 o9' hb9 S10 hMs10 hln hH9 hZ9 hclj
                  simp only [List.drop_succ_cons, List.drop_zero]
                  refine wpList_ran rfl (.tmp 109) (.tmp 116) rfl rfl rfl hrun ?_
                  go_wp2
                  go_roundw
                  case rel => exact ⟨r + 1, (a + 1), b', cap', s6, σ + 1, q', ow, _, (upd cl j Z), ms ++ [o9], by go_num, by simp, by go_num, by omega, by omega, by omega, S11, hMs11, J6⟩
                  case measure => simp [intOf]; omega
                · have h67 : E9 = 6 ∨ E9 = 7 := by
                    exact over_67 JB.out hj HTH.out HT.out hE9
                  rcases h67 with rfl | rfl
                  · refine wp_region_rely_tail Grown 4 [.val (.int .i64 j), .val (.pointer (some ⟨A, j, none⟩)), .val (.pointer (some ⟨b, 0, none⟩)), .val (.agg #[.int .i64 4, .int .i64 n, .int .i64 6, .int .i64 20, .int .i64 100, .int .i64 600, .int .i64 3, .pointer (some ⟨L.p, 0, none⟩), .int .i64 0])] (by kernel_rfl) Grown.refl Grown.trans (by decide) (by kernel_rfl) (by kernel_rfl) (by kernel_rfl) (by kernel_rfl) (by kernel_rfl) (by kernel_rfl) ?_
                    simp only [List.take_succ_cons, List.take_zero, relyAll, Act.put, List.setIfInBounds_toArray, List.set_cons_zero, List.set_cons_succ]
                    refine ⟨?_, ?_, ?_, ?_, ?_⟩
                    · intro w' hg _
                      refine Or.inl ⟨rfl, ?_⟩
                      go_simp
                      exact ⟨Grown.refl _, rfl⟩
                    · intro w' hg _
                      refine Or.inl ⟨rfl, ?_⟩
                      go_simp
                      exact ⟨Grown.refl _, rfl⟩
                    · intro w' hg _
                      refine Or.inl ⟨rfl, ?_⟩
                      have q1 := (SB.out.grown ((Below.refl _ _).drew)).grown hg
                      have qa := q1.a.cell (i := j) hj
                      rw [upd_same] at qa
                      simp only [Wh.v] at qa
                      go_simp
                      exact ⟨Grown.refl _, rfl⟩
                    · intro w' hg _
                      refine Or.inl ⟨rfl, ?_⟩
                      have vv := ((SB.out.grown ((Below.refl _ _).drew)).grown hg).f.v
                      have y0 := vv.c0
                      have y1 := vv.c1
                      have y2 := vv.c2
                      have y3 := vv.c3
                      have y4 := vv.c4
                      have y5 := vv.c5
                      have y6 := vv.c6
                      have y7 := vv.c7
                      have y8 := vv.c8
                      go_simp
                      exact ⟨Grown.refl _, rfl⟩
                    intro w5 hg _
                    have S5 := (SB.out.grown ((Below.refl _ _).drew)).grown hg
                    have hMs5 : M < w5.heap.size := by have := hg.size; have e : (World.heap (World.drew W)).size = W.heap.size := rfl; omega
                    clear hg
                    go_wp2_with (first
                      | (go_at_call 17; refine (S5.step SA.out hj HTH.out (by omega) HGd.out HO.out hκ HKZ.out hz2 HT.out rfl).mono ?_; rintro e w6 ⟨rfl, s6, S6, gd6⟩; have qa6 := S6.a.cell (i := j) hj; rw [upd_same] at qa6; simp only [Wh.v] at qa6; have dn := (S6.th j hj b Z κ _ (upd_same _ _ _)).1.done)
                      | (go_at_call 18; refine dn.mono ?_; rintro e w7 ⟨rfl, b7⟩; have S8 := (S6.grown b7).grown (grow_alloc (Below.refl _ _) (.cells #[.int .i64 6, .int .u64 H9, .int .i64 0, .int .i64 st9] 36)); have d8 := At.new w7 36 [.int .i64 6, .int .u64 H9, .int .i64 0, .int .i64 st9]; have qa8 := S8.a.cell (i := j) hj; have qaf := S8.a.frozen; have hDA : w7.heap.size ≠ A := by { have := (S6.grown b7).a.lt; omega }; have d9 := d8.other hDA j (.pointer none); have dE := d9.at0 0 rfl))
                    obtain ⟨-, J6⟩ := (JB.out.step hj HTH.out HT.out gd6).2.1 6 H9 st9 rfl (by decide)
                    have S9 := S8.drop SA.out (j := j)
                    simp only [upd_twice] at S9
                    try simp only [upd_twice] at J6
                    have hMs9 : M < ((w7.alloc (.cells #[.int .i64 6, .int .u64 H9, .int .i64 0, .int .i64 st9] 36)).setCell ⟨A, j, none⟩ (.pointer none)).heap.size := Nat.lt_of_le_of_lt S9.pm S9.p.lt
                    go_wp2
                    go_roundw
                    case rel => exact ⟨r + 1, (a + 1), pb, cap, s6, σ + 1, q', ow, _, (upd cl j Z), ms, by go_num, rfl, by go_num, by omega, by omega, by omega, S9, hMs9, J6⟩
                    case measure => simp [intOf]; omega
                  · refine wp_region_rely_tail Grown 4 [.val (.int .i64 j), .val (.pointer (some ⟨A, j, none⟩)), .val (.pointer (some ⟨b, 0, none⟩)), .val (.agg #[.int .i64 4, .int .i64 n, .int .i64 6, .int .i64 20, .int .i64 100, .int .i64 600, .int .i64 3, .pointer (some ⟨L.p, 0, none⟩), .int .i64 0])] (by kernel_rfl) Grown.refl Grown.trans (by decide) (by kernel_rfl) (by kernel_rfl) (by kernel_rfl) (by kernel_rfl) (by kernel_rfl) (by kernel_rfl) ?_
                    simp only [List.take_succ_cons, List.take_zero, relyAll, Act.put, List.setIfInBounds_toArray, List.set_cons_zero, List.set_cons_succ]
                    refine ⟨?_, ?_, ?_, ?_, ?_⟩
                    · intro w' hg _
                      refine Or.inl ⟨rfl, ?_⟩
                      go_simp
                      exact ⟨Grown.refl _, rfl⟩
                    · intro w' hg _
                      refine Or.inl ⟨rfl, ?_⟩
                      go_simp
                      exact ⟨Grown.refl _, rfl⟩
                    · intro w' hg _
                      refine Or.inl ⟨rfl, ?_⟩
                      have q1 := (SB.out.grown ((Below.refl _ _).drew)).grown hg
                      have qa := q1.a.cell (i := j) hj
                      rw [upd_same] at qa
                      simp only [Wh.v] at qa
                      go_simp
                      exact ⟨Grown.refl _, rfl⟩
                    · intro w' hg _
                      refine Or.inl ⟨rfl, ?_⟩
                      have vv := ((SB.out.grown ((Below.refl _ _).drew)).grown hg).f.v
                      have y0 := vv.c0
                      have y1 := vv.c1
                      have y2 := vv.c2
                      have y3 := vv.c3
                      have y4 := vv.c4
                      have y5 := vv.c5
                      have y6 := vv.c6
                      have y7 := vv.c7
                      have y8 := vv.c8
                      go_simp
                      exact ⟨Grown.refl _, rfl⟩
                    intro w5 hg _
                    have S5 := (SB.out.grown ((Below.refl _ _).drew)).grown hg
                    have hMs5 : M < w5.heap.size := by have := hg.size; have e : (World.heap (World.drew W)).size = W.heap.size := rfl; omega
                    clear hg
                    go_wp2_with (first
                      | (go_at_call 17; refine (S5.step SA.out hj HTH.out (by omega) HGd.out HO.out hκ HKZ.out hz2 HT.out rfl).mono ?_; rintro e w6 ⟨rfl, s6, S6, gd6⟩; have qa6 := S6.a.cell (i := j) hj; rw [upd_same] at qa6; simp only [Wh.v] at qa6; have dn := (S6.th j hj b Z κ _ (upd_same _ _ _)).1.done)
                      | (go_at_call 18; refine dn.mono ?_; rintro e w7 ⟨rfl, b7⟩; have S8 := (S6.grown b7).grown (grow_alloc (Below.refl _ _) (.cells #[.int .i64 7, .int .u64 H9, .int .i64 0, .int .i64 st9] 36)); have d8 := At.new w7 36 [.int .i64 7, .int .u64 H9, .int .i64 0, .int .i64 st9]; have qa8 := S8.a.cell (i := j) hj; have qaf := S8.a.frozen; have hDA : w7.heap.size ≠ A := by { have := (S6.grown b7).a.lt; omega }; have d9 := d8.other hDA j (.pointer none); have dE := d9.at0 0 rfl))
                    obtain ⟨-, J6⟩ := (JB.out.step hj HTH.out HT.out gd6).2.1 7 H9 st9 rfl (by decide)
                    have S9 := S8.drop SA.out (j := j)
                    simp only [upd_twice] at S9
                    try simp only [upd_twice] at J6
                    have hMs9 : M < ((w7.alloc (.cells #[.int .i64 7, .int .u64 H9, .int .i64 0, .int .i64 st9] 36)).setCell ⟨A, j, none⟩ (.pointer none)).heap.size := Nat.lt_of_le_of_lt S9.pm S9.p.lt
                    go_wp2
                    go_roundw
                    case rel => exact ⟨r + 1, (a + 1), pb, cap, s6, σ + 1, q', ow, _, (upd cl j Z), ms, by go_num, rfl, by go_num, by omega, by omega, by omega, S9, hMs9, J6⟩
                    case measure => simp [intOf]; omega
            · have haN2 : (NC : Int) ≤ (a : Int) := by omega
              go_wp2
              go_roundw
              case rel => exact ⟨r + 1, a, pb, cap, s2, σ, q, ow, θ, cl, ms, by go_num, rfl, by go_num, by omega, by omega, by omega, SS.out, hMs, JJ.out⟩
              case measure => simp [intOf]; omega
          | «at» b Z κ α =>
            rw [hθ] at qa
            simp only [Wh.v] at qa
            go_wp2
            clear hz qa
            obtain ⟨hgd, ho, hκ, hkz, hz1, hz2, -⟩ : α.good 4 n 6 20 κ σ q ∧ α.over? = false ∧ κ < 4 ∧ classOf Z = κ ∧ 1 ≤ Z ∧ Z ≤ 16 ∧ True := by
              have h9 := JJ.out.ok j hj
              rw [hθ] at h9
              exact ⟨h9.1, h9.2.1, h9.2.2.1, h9.2.2.2.1, h9.2.2.2.2.1, h9.2.2.2.2.2.1, trivial⟩
            obtain ⟨⟨q', α'⟩, ht⟩ : ∃ p, alTurn 4 n 6 20 κ Z false σ q α = p := ⟨_, rfl⟩
            have HT : Hid (alTurn 4 n 6 20 κ Z false σ q α = (q', α')) := ht
            have HGd : Hid (α.good 4 n 6 20 κ σ q) := hgd
            have HO : Hid (α.over? = false) := ho
            have HKZ : Hid (classOf Z = κ) := hkz
            have HTH : Hid (θ j = .at b Z κ α) := hθ
            clear hgd ho hkz ht
            cases hd : α'.over? with
            | false =>
              refine wp_region_rely_tail Grown 4 [.val (.int .i64 j), .val (.pointer (some ⟨A, j, none⟩)), .val (.pointer (some ⟨b, 0, none⟩)), .val (.agg #[.int .i64 4, .int .i64 n, .int .i64 6, .int .i64 20, .int .i64 100, .int .i64 600, .int .i64 3, .pointer (some ⟨L.p, 0, none⟩), .int .i64 0])] (by kernel_rfl) Grown.refl Grown.trans (by decide) (by kernel_rfl) (by kernel_rfl) (by kernel_rfl) (by kernel_rfl) (by kernel_rfl) (by kernel_rfl) ?_
              simp only [List.take_succ_cons, List.take_zero, relyAll, Act.put, List.setIfInBounds_toArray, List.set_cons_zero, List.set_cons_succ]
              refine ⟨?_, ?_, ?_, ?_, ?_⟩
              · intro w' hg _
                refine Or.inl ⟨rfl, ?_⟩
                go_simp
                exact ⟨Grown.refl _, rfl⟩
              · intro w' hg _
                refine Or.inl ⟨rfl, ?_⟩
                go_simp
                exact ⟨Grown.refl _, rfl⟩
              · intro w' hg _
                refine Or.inl ⟨rfl, ?_⟩
                have q1 := (SS.out.grown ((Below.refl _ _).drew)).grown hg
                have qa := q1.a.cell (i := j) hj
                rw [hθ] at qa
                simp only [Wh.v] at qa
                go_simp
                exact ⟨Grown.refl _, rfl⟩
              · intro w' hg _
                refine Or.inl ⟨rfl, ?_⟩
                have vv := ((SS.out.grown ((Below.refl _ _).drew)).grown hg).f.v
                have y0 := vv.c0
                have y1 := vv.c1
                have y2 := vv.c2
                have y3 := vv.c3
                have y4 := vv.c4
                have y5 := vv.c5
                have y6 := vv.c6
                have y7 := vv.c7
                have y8 := vv.c8
                go_simp
                exact ⟨Grown.refl _, rfl⟩
              intro w5 hg _
              have S5 := (SS.out.grown ((Below.refl _ _).drew)).grown hg
              have hMs5 : M < w5.heap.size := by have := hg.size; have e : (World.heap (World.drew wr)).size = wr.heap.size := rfl; omega
              clear hg
              go_wp2_with (go_at_call 17; refine (S5.step SA.out hj HTH.out (by omega) HGd.out HO.out hκ HKZ.out hz2 HT.out hd).mono ?_; rintro e w6 ⟨rfl, s6, S6, gd6⟩)
              have hMs6 : M < w6.heap.size := Nat.lt_of_le_of_lt S6.pm S6.p.lt
              obtain ⟨ow', J6⟩ := (JJ.out.step hj HTH.out HT.out gd6).1 hd
              go_roundw
              case rel => exact ⟨r + 1, a, pb, cap, s6, σ + 1, q', ow', _, cl, ms, by go_num, rfl, by go_num, by omega, by omega, by omega, S6, hMs6, J6⟩
              case measure => simp [intOf]; omega
            | true =>
              obtain ⟨E9, H9, st9, rfl⟩ : ∃ E9 H9 st9, α' = .over E9 H9 st9 := by
                cases α' with
                | over E9 H9 st9 => exact ⟨E9, H9, st9, rfl⟩
                | _ => cases hd
              by_cases hE9 : E9 = 0
              · subst hE9
                refine wp_region_rely_tail Grown 4 [.val (.int .i64 j), .val (.pointer (some ⟨A, j, none⟩)), .val (.pointer (some ⟨b, 0, none⟩)), .val (.agg #[.int .i64 4, .int .i64 n, .int .i64 6, .int .i64 20, .int .i64 100, .int .i64 600, .int .i64 3, .pointer (some ⟨L.p, 0, none⟩), .int .i64 0])] (by kernel_rfl) Grown.refl Grown.trans (by decide) (by kernel_rfl) (by kernel_rfl) (by kernel_rfl) (by kernel_rfl) (by kernel_rfl) (by kernel_rfl) ?_
                simp only [List.take_succ_cons, List.take_zero, relyAll, Act.put, List.setIfInBounds_toArray, List.set_cons_zero, List.set_cons_succ]
                refine ⟨?_, ?_, ?_, ?_, ?_⟩
                · intro w' hg _
                  refine Or.inl ⟨rfl, ?_⟩
                  go_simp
                  exact ⟨Grown.refl _, rfl⟩
                · intro w' hg _
                  refine Or.inl ⟨rfl, ?_⟩
                  go_simp
                  exact ⟨Grown.refl _, rfl⟩
                · intro w' hg _
                  refine Or.inl ⟨rfl, ?_⟩
                  have q1 := (SS.out.grown ((Below.refl _ _).drew)).grown hg
                  have qa := q1.a.cell (i := j) hj
                  rw [hθ] at qa
                  simp only [Wh.v] at qa
                  go_simp
                  exact ⟨Grown.refl _, rfl⟩
                · intro w' hg _
                  refine Or.inl ⟨rfl, ?_⟩
                  have vv := ((SS.out.grown ((Below.refl _ _).drew)).grown hg).f.v
                  have y0 := vv.c0
                  have y1 := vv.c1
                  have y2 := vv.c2
                  have y3 := vv.c3
                  have y4 := vv.c4
                  have y5 := vv.c5
                  have y6 := vv.c6
                  have y7 := vv.c7
                  have y8 := vv.c8
                  go_simp
                  exact ⟨Grown.refl _, rfl⟩
                intro w5 hg _
                have S5 := (SS.out.grown ((Below.refl _ _).drew)).grown hg
                have hMs5 : M < w5.heap.size := by have := hg.size; have e : (World.heap (World.drew wr)).size = wr.heap.size := rfl; omega
                clear hg
                go_wp2_with (first
                  | (go_at_call 17; refine (S5.step SA.out hj HTH.out (by omega) HGd.out HO.out hκ HKZ.out hz2 HT.out rfl).mono ?_; rintro e w6 ⟨rfl, s6, S6, gd6⟩; have qa6 := S6.a.cell (i := j) hj; rw [upd_same] at qa6; simp only [Wh.v] at qa6; have dn := (S6.th j hj b Z κ _ (upd_same _ _ _)).1.done)
                  | (go_at_call 18; refine dn.mono ?_; rintro e w7 ⟨rfl, b7⟩; have S8 := (S6.grown b7).grown (grow_alloc (Below.refl _ _) (.cells #[.int .i64 0, .int .u64 H9, .int .i64 0, .int .i64 st9] 36)); have d8 := At.new w7 36 [.int .i64 0, .int .u64 H9, .int .i64 0, .int .i64 st9]; have qa8 := S8.a.cell (i := j) hj; have qaf := S8.a.frozen; have hDA : w7.heap.size ≠ A := by { have := (S6.grown b7).a.lt; omega }; have d9 := d8.other hDA j (.pointer none); have dE := d9.at0 0 rfl))
                obtain ⟨o9, hH9, hZ9, J6⟩ := (JJ.out.step hj HTH.out HT.out gd6).2.2 H9 st9 rfl
                have S9 := S8.drop SA.out (j := j)
                simp only [upd_twice] at S9
                try simp only [upd_twice] at J6
                obtain ⟨D, hD⟩ : ∃ D, w7.heap.size = D := ⟨_, rfl⟩
                rw [hD] at d9 ⊢
                have hclj : (cl) j = Z := (S6.th j hj b Z κ _ (upd_same _ _ _)).2.2.1
                refine wp_over (fun W => Three w W L E A C M n s6 (σ + 1) q' (upd θ j .nil) (cl) pb cap (ms.map (fun o => (packH (o.x : Int) 1, (o.Z : Int)))) ∧ At W D 0 36 _ [.int .i64 0, .int .u64 H9, .int .i64 0, .int .i64 st9]) (by exact ⟨S9, d9⟩) ?_
                clear S9 d9 d8 S8 S6 S5 dn qa6 qa8 qaf dE hDA b7 gd6 hD
                rintro W ⟨S9, d9⟩
                obtain ⟨Sz, hSz⟩ : ∃ Sz, W.heap.size = Sz := ⟨_, rfl⟩
                have hcell9 := S9.c.cell (i := j) hj
                refine wp_region_rely_tail Grown 8 [.val (.slice (some ⟨pb, 0, none⟩) ms.length cap), .val (.pointer (some ⟨D, 1, none⟩)), .val (.int .u64 H9), .val (.int .i64 j), .val (.pointer (some ⟨C, j, none⟩)), .val (.int .i64 Z), .val (.agg #[.int .u64 H9, .int .i64 Z]), .that (fun w' v => ∃ G, v = .slice (some ⟨G, 0, none⟩) 1 1 ∧ Sz ≤ G ∧ w'.cell? ⟨G, 0, none⟩ = some (.int .u64 H9) ∧ w'.cell? ⟨G, 1, none⟩ = some (.int .i64 Z)) ?_] (by kernel_rfl) Grown.refl Grown.trans (by decide) (by kernel_rfl) (by kernel_rfl) (by kernel_rfl) (by kernel_rfl) (by kernel_rfl) (by kernel_rfl) ?_
                · rintro x1 y1 v hg ⟨G, hv, hb, h0, h1⟩
                  exact ⟨G, hv, hb, keep' hg h0, keep' hg h1⟩
                simp only [List.take_succ_cons, List.take_zero, relyAll, Act.put, List.setIfInBounds_toArray, List.set_cons_zero, List.set_cons_succ]
                refine ⟨?_, ?_, ?_, ?_, ?_, ?_, ?_, ?_, ?_⟩
                · intro w' hg _
                  refine Or.inl ⟨rfl, ?_⟩
                  go_simp
                  exact ⟨Grown.refl _, rfl⟩
                · intro w' hg _
                  refine Or.inl ⟨rfl, ?_⟩
                  go_simp
                  exact ⟨Grown.refl _, rfl⟩
                · intro w' hg _
                  refine Or.inl ⟨rfl, ?_⟩
                  have q1 := (d9.drew.grown hg).at0 1 rfl
                  go_simp
                  exact ⟨Grown.refl _, rfl⟩
                · intro w' hg _
                  refine Or.inl ⟨rfl, ?_⟩
                  go_simp
                  exact ⟨Grown.refl _, rfl⟩
                · intro w' hg _
                  refine Or.inl ⟨rfl, ?_⟩
                  go_simp
                  exact ⟨Grown.refl _, rfl⟩
                · intro w' hg _
                  refine Or.inl ⟨rfl, ?_⟩
                  have q1 := ((S9.grown ((Below.refl _ _).drew)).grown hg).c.cell (i := j) hj
                  rw [hclj] at q1
                  go_simp
                  exact ⟨Grown.refl _, rfl⟩
                · intro w' hg _
                  refine Or.inl ⟨rfl, ?_⟩
                  go_simp
                  exact ⟨Grown.refl _, rfl⟩
                · intro w' hg _
                  refine Or.inl ⟨rfl, ?_⟩
                  have hz : Sz ≤ w'.heap.size := by have := hg.size; have e : W.drew.heap.size = W.heap.size := rfl; omega
                  go_simp
                  exact ⟨grow_alloc (Below.refl _ _) _, _, rfl, hz, by simp, by simp⟩
                intro vG w8 hg hf
                obtain ⟨G, rfl, hGS, hG0, hG1⟩ := hf.1
                have S10 := (S9.grown ((Below.refl _ _).drew)).grown hg
                have hMs10 : M < w8.heap.size := Nat.lt_of_le_of_lt S10.pm S10.p.lt
                obtain ⟨b', cap', w9, hrun, hp9, o9', hb9⟩ := S10.p.app G H9 Z hG0 hG1 (by simp; omega) 45
                rw [List.length_map] at hrun
                have S11 := S10.more SA.out o9' hp9 hb9 (by omega)
                have hMs11 : M < w9.heap.size := Nat.lt_of_le_of_lt S11.pm S11.p.lt
                have hll : ms.map (fun o => (packH (o.x : Int) 1, (o.Z : Int))) ++ [(H9, (Z : Int))] = (ms ++ [o9]).map (fun o => (packH (o.x : Int) 1, (o.Z : Int))) := by
                  rw [List.map_append, hH9, ← hZ9]
                  rfl
                rw [hll] at S11
                have hln : ms.length + 1 = (ms ++ [o9]).length := by simp
                rw [hln] at hrun
                clear hf hg S9 d9 hSz hcell9 hGS hG0 hG1 hll hp9 o9' hb9 S10 hMs10 hln hH9 hZ9 hclj
                simp only [List.drop_succ_cons, List.drop_zero]
                refine wpList_ran rfl (.tmp 109) (.tmp 116) rfl rfl rfl hrun ?_
                go_wp2
                go_roundw
                case rel => exact ⟨r + 1, a, b', cap', s6, σ + 1, q', ow, _, cl, ms ++ [o9], by go_num, by simp, by go_num, by omega, by omega, by omega, S11, hMs11, J6⟩
                case measure => simp [intOf]; omega
              · have h67 : E9 = 6 ∨ E9 = 7 := by
                  exact over_67 JJ.out hj HTH.out HT.out hE9
                rcases h67 with rfl | rfl
                · refine wp_region_rely_tail Grown 4 [.val (.int .i64 j), .val (.pointer (some ⟨A, j, none⟩)), .val (.pointer (some ⟨b, 0, none⟩)), .val (.agg #[.int .i64 4, .int .i64 n, .int .i64 6, .int .i64 20, .int .i64 100, .int .i64 600, .int .i64 3, .pointer (some ⟨L.p, 0, none⟩), .int .i64 0])] (by kernel_rfl) Grown.refl Grown.trans (by decide) (by kernel_rfl) (by kernel_rfl) (by kernel_rfl) (by kernel_rfl) (by kernel_rfl) (by kernel_rfl) ?_
                  simp only [List.take_succ_cons, List.take_zero, relyAll, Act.put, List.setIfInBounds_toArray, List.set_cons_zero, List.set_cons_succ]
                  refine ⟨?_, ?_, ?_, ?_, ?_⟩
                  · intro w' hg _
                    refine Or.inl ⟨rfl, ?_⟩
                    go_simp
                    exact ⟨Grown.refl _, rfl⟩
                  · intro w' hg _
                    refine Or.inl ⟨rfl, ?_⟩
                    go_simp
                    exact ⟨Grown.refl _, rfl⟩
                  · intro w' hg _
                    refine Or.inl ⟨rfl, ?_⟩
                    have q1 := (SS.out.grown ((Below.refl _ _).drew)).grown hg
                    have qa := q1.a.cell (i := j) hj
                    rw [hθ] at qa
                    simp only [Wh.v] at qa
                    go_simp
                    exact ⟨Grown.refl _, rfl⟩
                  · intro w' hg _
                    refine Or.inl ⟨rfl, ?_⟩
                    have vv := ((SS.out.grown ((Below.refl _ _).drew)).grown hg).f.v
                    have y0 := vv.c0
                    have y1 := vv.c1
                    have y2 := vv.c2
                    have y3 := vv.c3
                    have y4 := vv.c4
                    have y5 := vv.c5
                    have y6 := vv.c6
                    have y7 := vv.c7
                    have y8 := vv.c8
                    go_simp
                    exact ⟨Grown.refl _, rfl⟩
                  intro w5 hg _
                  have S5 := (SS.out.grown ((Below.refl _ _).drew)).grown hg
                  have hMs5 : M < w5.heap.size := by have := hg.size; have e : (World.heap (World.drew wr)).size = wr.heap.size := rfl; omega
                  clear hg
                  go_wp2_with (first
                    | (go_at_call 17; refine (S5.step SA.out hj HTH.out (by omega) HGd.out HO.out hκ HKZ.out hz2 HT.out rfl).mono ?_; rintro e w6 ⟨rfl, s6, S6, gd6⟩; have qa6 := S6.a.cell (i := j) hj; rw [upd_same] at qa6; simp only [Wh.v] at qa6; have dn := (S6.th j hj b Z κ _ (upd_same _ _ _)).1.done)
                    | (go_at_call 18; refine dn.mono ?_; rintro e w7 ⟨rfl, b7⟩; have S8 := (S6.grown b7).grown (grow_alloc (Below.refl _ _) (.cells #[.int .i64 6, .int .u64 H9, .int .i64 0, .int .i64 st9] 36)); have d8 := At.new w7 36 [.int .i64 6, .int .u64 H9, .int .i64 0, .int .i64 st9]; have qa8 := S8.a.cell (i := j) hj; have qaf := S8.a.frozen; have hDA : w7.heap.size ≠ A := by { have := (S6.grown b7).a.lt; omega }; have d9 := d8.other hDA j (.pointer none); have dE := d9.at0 0 rfl))
                  obtain ⟨-, J6⟩ := (JJ.out.step hj HTH.out HT.out gd6).2.1 6 H9 st9 rfl (by decide)
                  have S9 := S8.drop SA.out (j := j)
                  simp only [upd_twice] at S9
                  try simp only [upd_twice] at J6
                  have hMs9 : M < ((w7.alloc (.cells #[.int .i64 6, .int .u64 H9, .int .i64 0, .int .i64 st9] 36)).setCell ⟨A, j, none⟩ (.pointer none)).heap.size := Nat.lt_of_le_of_lt S9.pm S9.p.lt
                  go_wp2
                  go_roundw
                  case rel => exact ⟨r + 1, a, pb, cap, s6, σ + 1, q', ow, _, cl, ms, by go_num, rfl, by go_num, by omega, by omega, by omega, S9, hMs9, J6⟩
                  case measure => simp [intOf]; omega
                · refine wp_region_rely_tail Grown 4 [.val (.int .i64 j), .val (.pointer (some ⟨A, j, none⟩)), .val (.pointer (some ⟨b, 0, none⟩)), .val (.agg #[.int .i64 4, .int .i64 n, .int .i64 6, .int .i64 20, .int .i64 100, .int .i64 600, .int .i64 3, .pointer (some ⟨L.p, 0, none⟩), .int .i64 0])] (by kernel_rfl) Grown.refl Grown.trans (by decide) (by kernel_rfl) (by kernel_rfl) (by kernel_rfl) (by kernel_rfl) (by kernel_rfl) (by kernel_rfl) ?_
                  simp only [List.take_succ_cons, List.take_zero, relyAll, Act.put, List.setIfInBounds_toArray, List.set_cons_zero, List.set_cons_succ]
                  refine ⟨?_, ?_, ?_, ?_, ?_⟩
                  · intro w' hg _
                    refine Or.inl ⟨rfl, ?_⟩
                    go_simp
                    exact ⟨Grown.refl _, rfl⟩
                  · intro w' hg _
                    refine Or.inl ⟨rfl, ?_⟩
                    go_simp
                    exact ⟨Grown.refl _, rfl⟩
                  · intro w' hg _
                    refine Or.inl ⟨rfl, ?_⟩
                    have q1 := (SS.out.grown ((Below.refl _ _).drew)).grown hg
                    have qa := q1.a.cell (i := j) hj
                    rw [hθ] at qa
                    simp only [Wh.v] at qa
                    go_simp
                    exact ⟨Grown.refl _, rfl⟩
                  · intro w' hg _
                    refine Or.inl ⟨rfl, ?_⟩
                    have vv := ((SS.out.grown ((Below.refl _ _).drew)).grown hg).f.v
                    have y0 := vv.c0
                    have y1 := vv.c1
                    have y2 := vv.c2
                    have y3 := vv.c3
                    have y4 := vv.c4
                    have y5 := vv.c5
                    have y6 := vv.c6
                    have y7 := vv.c7
                    have y8 := vv.c8
                    go_simp
                    exact ⟨Grown.refl _, rfl⟩
                  intro w5 hg _
                  have S5 := (SS.out.grown ((Below.refl _ _).drew)).grown hg
                  have hMs5 : M < w5.heap.size := by have := hg.size; have e : (World.heap (World.drew wr)).size = wr.heap.size := rfl; omega
                  clear hg
                  go_wp2_with (first
                    | (go_at_call 17; refine (S5.step SA.out hj HTH.out (by omega) HGd.out HO.out hκ HKZ.out hz2 HT.out rfl).mono ?_; rintro e w6 ⟨rfl, s6, S6, gd6⟩; have qa6 := S6.a.cell (i := j) hj; rw [upd_same] at qa6; simp only [Wh.v] at qa6; have dn := (S6.th j hj b Z κ _ (upd_same _ _ _)).1.done)
                    | (go_at_call 18; refine dn.mono ?_; rintro e w7 ⟨rfl, b7⟩; have S8 := (S6.grown b7).grown (grow_alloc (Below.refl _ _) (.cells #[.int .i64 7, .int .u64 H9, .int .i64 0, .int .i64 st9] 36)); have d8 := At.new w7 36 [.int .i64 7, .int .u64 H9, .int .i64 0, .int .i64 st9]; have qa8 := S8.a.cell (i := j) hj; have qaf := S8.a.frozen; have hDA : w7.heap.size ≠ A := by { have := (S6.grown b7).a.lt; omega }; have d9 := d8.other hDA j (.pointer none); have dE := d9.at0 0 rfl))
                  obtain ⟨-, J6⟩ := (JJ.out.step hj HTH.out HT.out gd6).2.1 7 H9 st9 rfl (by decide)
                  have S9 := S8.drop SA.out (j := j)
                  simp only [upd_twice] at S9
                  try simp only [upd_twice] at J6
                  have hMs9 : M < ((w7.alloc (.cells #[.int .i64 7, .int .u64 H9, .int .i64 0, .int .i64 st9] 36)).setCell ⟨A, j, none⟩ (.pointer none)).heap.size := Nat.lt_of_le_of_lt S9.pm S9.p.lt
                  go_wp2
                  go_roundw
                  case rel => exact ⟨r + 1, a, pb, cap, s6, σ + 1, q', ow, _, cl, ms, by go_num, rfl, by go_num, by omega, by omega, by omega, S9, hMs9, J6⟩
                  case measure => simp [intOf]; omega
        · have hr4' : ¬ (r : Int) < 400 := by omega
          obtain ⟨j, hj1, hj⟩ := rem3 r
          have hj' : (j : Int) < 3 := by omega
          have SS : Hid (Three w wr L E A C M n s2 σ q θ cl pb cap (ms.map (fun o => (packH (o.x : Int) 1, (o.Z : Int))))) := S
          have JJ : Hid (Jam n q σ ow θ ms) := J
          have qa := S.a.cell (i := j) hj
          clear S J
          cases hθ : θ j with
          | nil =>
            rw [hθ] at qa
            simp only [Wh.v] at qa
            by_cases haN' : a < NC
            · have haN2 : (a : Int) < (NC : Int) := by omega
              have haN3 : ¬ (NC : Int) ≤ (a : Int) := by omega
              obtain ⟨cb, cq, rfl, hc0⟩ := HC.out a haN'
              have hc := keep' SS.out.f.b hc0
              obtain ⟨Z, hZ, hZ1, hZ16⟩ := low15 (zc a)
              obtain ⟨κ, hkz, hκ⟩ := class_of hZ1 hZ16
              have qc := SS.out.c.cell (i := j) hj
              have qcf := SS.out.c.frozen j
              have S1 := SS.out.begin SA.out (Nat.le_of_lt hMs) (j := j) (Z := Z) (κ := κ) hθ
              rw [Go.Deep.nblk_setCell] at S1
              have qa2 : ((wr.setCell ⟨C, j, none⟩ (.int .i64 Z)).alloc (alloc0 Z false)).cell? ⟨A, j, none⟩ = some (.pointer none) := by
                have h1 := (SS.out.a.setOther (a := ⟨C, j, none⟩) SA.out.ac (.int .i64 (Z : Int))).alloc (alloc0 Z false)
                have h2 := h1.cell (i := j) hj
                rw [hθ] at h2
                exact h2
              have qaf2 : ∀ i, ((wr.setCell ⟨C, j, none⟩ (.int .i64 Z)).alloc (alloc0 Z false)).frozen? ⟨A, i, none⟩ = false := ((SS.out.a.setOther (a := ⟨C, j, none⟩) SA.out.ac (.int .i64 (Z : Int))).alloc (alloc0 Z false)).frozen
              have qc2 : (wr.setCell ⟨C, j, none⟩ (.int .i64 Z)).cell? ⟨C, j, none⟩ = some (.int .i64 Z) := by
                have := (SS.out.c.set j (.int .i64 (Z : Int))).cell (i := j) hj
                simpa using this
              have J1 := JJ.out.begin (b := wr.heap.size) hj hθ hκ hkz hZ1 hZ16
              clear hc0
              go_wp2_with (go_at_call 16; refine (newAlloc_any Z false _).mono ?_; rintro e w5 ⟨rfl, rfl⟩)
              obtain ⟨b, hb⟩ : ∃ b, wr.heap.size = b := ⟨_, rfl⟩
              rw [hb] at S1 J1 ⊢
              refine wp_over (fun W => Three w W L E A C M n s2 σ q (upd θ j (.at b Z κ (.take .idle))) (upd cl j Z) pb cap (ms.map (fun o => (packH (o.x : Int) 1, (o.Z : Int))))) (by exact S1) ?_
              have JB : Hid (Jam n q σ ow (upd θ j (.at b Z κ (.take .idle))) ms) := J1
              clear qa qc qcf qa2 qaf2 qc2 S1 SS JJ J1 hb hc hMs
              rintro W S1
              have SB : Hid (Three w W L E A C M n s2 σ q (upd θ j (.at b Z κ (.take .idle))) (upd cl j Z) pb cap (ms.map (fun o => (packH (o.x : Int) 1, (o.Z : Int))))) := S1
              have hMs : M < W.heap.size := Nat.lt_of_le_of_lt S1.pm S1.p.lt
              clear S1
              obtain ⟨hgd, ho, hκ, hkz, hz1, hz2, -⟩ : (Al.take .idle).good 4 n 6 20 κ σ q ∧ (Al.take .idle).over? = false ∧ κ < 4 ∧ classOf Z = κ ∧ 1 ≤ Z ∧ Z ≤ 16 ∧ True := by
                have h9 := JB.out.ok j hj
                rw [upd_same] at h9
                exact ⟨h9.1, h9.2.1, h9.2.2.1, h9.2.2.2.1, h9.2.2.2.2.1, h9.2.2.2.2.2.1, trivial⟩
              obtain ⟨⟨q', α'⟩, ht⟩ : ∃ p, alTurn 4 n 6 20 κ Z false σ q (.take .idle) = p := ⟨_, rfl⟩
              have HT : Hid (alTurn 4 n 6 20 κ Z false σ q (.take .idle) = (q', α')) := ht
              have HGd : Hid ((Al.take .idle).good 4 n 6 20 κ σ q) := hgd
              have HO : Hid ((Al.take .idle).over? = false) := ho
              have HKZ : Hid (classOf Z = κ) := hkz
              have HTH : Hid ((upd θ j (.at b Z κ (.take .idle))) j = .at b Z κ (.take .idle)) := by unfold Hid; exact upd_same _ _ _
              clear hgd ho hkz ht
              cases hd : α'.over? with
              | false =>
                refine wp_region_rely_tail Grown 4 [.val (.int .i64 j), .val (.pointer (some ⟨A, j, none⟩)), .val (.pointer (some ⟨b, 0, none⟩)), .val (.agg #[.int .i64 4, .int .i64 n, .int .i64 6, .int .i64 20, .int .i64 100, .int .i64 600, .int .i64 3, .pointer (some ⟨L.p, 0, none⟩), .int .i64 0])] (by kernel_rfl) Grown.refl Grown.trans (by decide) (by kernel_rfl) (by kernel_rfl) (by kernel_rfl) (by kernel_rfl) (by kernel_rfl) (by kernel_rfl) ?_
                simp only [List.take_succ_cons, List.take_zero, relyAll, Act.put, List.setIfInBounds_toArray, List.set_cons_zero, List.set_cons_succ]
                refine ⟨?_, ?_, ?_, ?_, ?_⟩
                · intro w' hg _
                  refine Or.inl ⟨rfl, ?_⟩
                  go_simp
                  exact ⟨Grown.refl _, rfl⟩
                · intro w' hg _
                  refine Or.inl ⟨rfl, ?_⟩
                  go_simp
                  exact ⟨Grown.refl _, rfl⟩
                · intro w' hg _
                  refine Or.inl ⟨rfl, ?_⟩
                  have q1 := (SB.out.grown ((Below.refl _ _).drew)).grown hg
                  have qa := q1.a.cell (i := j) hj
                  rw [upd_same] at qa
                  simp only [Wh.v] at qa
                  go_simp
                  exact ⟨Grown.refl _, rfl⟩
                · intro w' hg _
                  refine Or.inl ⟨rfl, ?_⟩
                  have vv := ((SB.out.grown ((Below.refl _ _).drew)).grown hg).f.v
                  have y0 := vv.c0
                  have y1 := vv.c1
                  have y2 := vv.c2
                  have y3 := vv.c3
                  have y4 := vv.c4
                  have y5 := vv.c5
                  have y6 := vv.c6
                  have y7 := vv.c7
                  have y8 := vv.c8
                  go_simp
                  exact ⟨Grown.refl _, rfl⟩
                intro w5 hg _
                have S5 := (SB.out.grown ((Below.refl _ _).drew)).grown hg
                have hMs5 : M < w5.heap.size := by have := hg.size; have e : (World.heap (World.drew W)).size = W.heap.size := rfl; omega
                clear hg
                go_wp2_with (go_at_call 17; refine (S5.step SA.out hj HTH.out (by omega) HGd.out HO.out hκ HKZ.out hz2 HT.out hd).mono ?_; rintro e w6 ⟨rfl, s6, S6, gd6⟩)
                have hMs6 : M < w6.heap.size := Nat.lt_of_le_of_lt S6.pm S6.p.lt
                obtain ⟨ow', J6⟩ := (JB.out.step hj HTH.out HT.out gd6).1 hd
                go_roundw
                case rel => exact ⟨r + 1, (a + 1), pb, cap, s6, σ + 1, q', ow', _, (upd cl j Z), ms, by go_num, rfl, by go_num, by omega, by omega, by omega, S6, hMs6, J6⟩
                case measure => simp [intOf]; omega
              | true =>
                obtain ⟨E9, H9, st9, rfl⟩ : ∃ E9 H9 st9, α' = .over E9 H9 st9 := by
                  cases α' with
                  | over E9 H9 st9 => exact ⟨E9, H9, st9, rfl⟩
                  | _ => cases hd
                by_cases hE9 : E9 = 0
                · subst hE9
                  refine wp_region_rely_tail Grown 4 [.val (.int .i64 j), .val (.pointer (some ⟨A, j, none⟩)), .val (.pointer (some ⟨b, 0, none⟩)), .val (.agg #[.int .i64 4, .int .i64 n, .int .i64 6, .int .i64 20, .int .i64 100, .int .i64 600, .int .i64 3, .pointer (some ⟨L.p, 0, none⟩), .int .i64 0])] (by kernel_rfl) Grown.refl Grown.trans (by decide) (by kernel_rfl) (by kernel_rfl) (by kernel_rfl) (by kernel_rfl) (by kernel_rfl) (by kernel_rfl) ?_
                  simp only [List.take_succ_cons, List.take_zero, relyAll, Act.put, List.setIfInBounds_toArray, List.set_cons_zero, List.set_cons_succ]
                  refine ⟨?_, ?_, ?_, ?_, ?_⟩
                  · intro w' hg _
                    refine Or.inl ⟨rfl, ?_⟩
                    go_simp
                    exact ⟨Grown.refl _, rfl⟩
                  · intro w' hg _
                    refine Or.inl ⟨rfl, ?_⟩
                    go_simp
                    exact ⟨Grown.refl _, rfl⟩
                  · intro w' hg _
                    refine Or.inl ⟨rfl, ?_⟩
                    have q1 := (SB.out.grown ((Below.refl _ _).drew)).grown hg
                    have qa := q1.a.cell (i := j) hj
                    rw [upd_same] at qa
                    simp only [Wh.v] at qa
                    go_simp
                    exact ⟨Grown.refl _, rfl⟩
                  · intro w' hg _
                    refine Or.inl ⟨rfl, ?_⟩
                    have vv := ((SB.out.grown ((Below.refl _ _).drew)).grown hg).f.v
                    have y0 := vv.c0
                    have y1 := vv.c1
                    have y2 := vv.c2
                    have y3 := vv.c3
                    have y4 := vv.c4
                    have y5 := vv.c5
                    have y6 := vv.c6
                    have y7 := vv.c7
                    have y8 := vv.c8
                    go_simp
                    exact ⟨Grown.refl _, rfl⟩
                  intro w5 hg _
                  have S5 := (SB.out.grown ((Below.refl _ _).drew)).grown hg
                  have hMs5 : M < w5.heap.size := by have := hg.size; have e : (World.heap (World.drew W)).size = W.heap.size := rfl; omega
                  clear hg
                  go_wp2_with (first
                    | (go_at_call 17; refine (S5.step SA.out hj HTH.out (by omega) HGd.out HO.out hκ HKZ.out hz2 HT.out rfl).mono ?_; rintro e w6 ⟨rfl, s6, S6, gd6⟩; have qa6 := S6.a.cell (i := j) hj; rw [upd_same] at qa6; simp only [Wh.v] at qa6; have dn := (S6.th j hj b Z κ _ (upd_same _ _ _)).1.done)
                    | (go_at_call 18; refine dn.mono ?_; rintro e w7 ⟨rfl, b7⟩; have S8 := (S6.grown b7).grown (grow_alloc (Below.refl _ _) (.cells #[.int .i64 0, .int .u64 H9, .int .i64 0, .int .i64 st9] 36)); have d8 := At.new w7 36 [.int .i64 0, .int .u64 H9, .int .i64 0, .int .i64 st9]; have qa8 := S8.a.cell (i := j) hj; have qaf := S8.a.frozen; have hDA : w7.heap.size ≠ A := by { have := (S6.grown b7).a.lt; omega }; have d9 := d8.other hDA j (.pointer none); have dE := d9.at0 0 rfl))
                  obtain ⟨o9, hH9, hZ9, J6⟩ := (JB.out.step hj HTH.out HT.out gd6).2.2 H9 st9 rfl
                  have S9 := S8.drop SA.out (j := j)
                  simp only [upd_twice] at S9
                  try simp only [upd_twice] at J6
                  obtain ⟨D, hD⟩ : ∃ D, w7.heap.size = D := ⟨_, rfl⟩
                  rw [hD] at d9 ⊢
                  have hclj : ((upd cl j Z)) j = Z := (S6.th j hj b Z κ _ (upd_same _ _ _)).2.2.1
                  refine wp_over (fun W => Three w W L E A C M n s6 (σ + 1) q' (upd θ j .nil) ((upd cl j Z)) pb cap (ms.map (fun o => (packH (o.x : Int) 1, (o.Z : Int)))) ∧ At W D 0 36 _ [.int .i64 0, .int .u64 H9, .int .i64 0, .int .i64 st9]) (by exact ⟨S9, d9⟩) ?_
                  clear S9 d9 d8 S8 S6 S5 dn qa6 qa8 qaf dE hDA b7 gd6 hD
                  rintro W ⟨S9, d9⟩
                  obtain ⟨Sz, hSz⟩ : ∃ Sz, W.heap.size = Sz := ⟨_, rfl⟩
                  have hcell9 := S9.c.cell (i := j) hj
                  refine wp_region_rely_tail Grown 8 [.val (.slice (some ⟨pb, 0, none⟩) ms.length cap), .val (.pointer (some ⟨D, 1, none⟩)), .val (.int .u64 H9), .val (.int .i64 j), .val (.pointer (some ⟨C, j, none⟩)), .val (.int .i64 Z), .val (.agg #[.int .u64 H9, .int .i64 Z]), .that (fun w' v => ∃ G, v = .slice (some ⟨G, 0, none⟩) 1 1 ∧ Sz ≤ G ∧ w'.cell? ⟨G, 0, none⟩ = some (.int .u64 H9) ∧ w'.cell? ⟨G, 1, none⟩ = some (.int .i64 Z)) ?_] (by kernel_rfl) Grown.refl Grown.trans (by decide) (by kernel_rfl) (by kernel_rfl) (by kernel_rfl) (by kernel_rfl) (by kernel_rfl) (by kernel_rfl) ?_
                  · rintro x1 y1 v hg ⟨G, hv, hb, h0, h1⟩
                    exact ⟨G, hv, hb, keep' hg h0, keep' hg h1⟩
                  simp only [List.take_succ_cons, List.take_zero, relyAll, Act.put, List.setIfInBounds_toArray, List.set_cons_zero, List.set_cons_succ]
                  refine ⟨?_, ?_, ?_, ?_, ?_, ?_, ?_, ?_, ?_⟩
                  · intro w' hg _
                    refine Or.inl ⟨rfl, ?_⟩
                    go_simp
                    exact ⟨Grown.refl _, rfl⟩
                  · intro w' hg _
                    refine Or.inl ⟨rfl, ?_⟩
                    go_simp
                    exact ⟨Grown.refl _, rfl⟩
                  · intro w' hg _
                    refine Or.inl ⟨rfl, ?_⟩
                    have q1 := (d9.drew.grown hg).at0 1 rfl
                    go_simp
                    exact ⟨Grown.refl _, rfl⟩
                  · intro w' hg _
                    refine Or.inl ⟨rfl, ?_⟩
                    go_simp
                    exact ⟨Grown.refl _, rfl⟩
                  · intro w' hg _
                    refine Or.inl ⟨rfl, ?_⟩
                    go_simp
                    exact ⟨Grown.refl _, rfl⟩
                  · intro w' hg _
                    refine Or.inl ⟨rfl, ?_⟩
                    have q1 := ((S9.grown ((Below.refl _ _).drew)).grown hg).c.cell (i := j) hj
                    rw [hclj] at q1
                    go_simp
                    exact ⟨Grown.refl _, rfl⟩
                  · intro w' hg _
                    refine Or.inl ⟨rfl, ?_⟩
                    go_simp
                    exact ⟨Grown.refl _, rfl⟩
                  · intro w' hg _
                    refine Or.inl ⟨rfl, ?_⟩
                    have hz : Sz ≤ w'.heap.size := by have := hg.size; have e : W.drew.heap.size = W.heap.size := rfl; omega
                    go_simp
                    exact ⟨grow_alloc (Below.refl _ _) _, _, rfl, hz, by simp, by simp⟩
                  intro vG w8 hg hf
                  obtain ⟨G, rfl, hGS, hG0, hG1⟩ := hf.1
                  have S10 := (S9.grown ((Below.refl _ _).drew)).grown hg
                  have hMs10 : M < w8.heap.size := Nat.lt_of_le_of_lt S10.pm S10.p.lt
                  obtain ⟨b', cap', w9, hrun, hp9, o9', hb9⟩ := S10.p.app G H9 Z hG0 hG1 (by simp; omega) 45
                  rw [List.length_map] at hrun
                  have S11 := S10.more SA.out o9' hp9 hb9 (by omega)
                  have hMs11 : M < w9.heap.size := Nat.lt_of_le_of_lt S11.pm S11.p.lt
                  have hll : ms.map (fun o => (packH (o.x : Int) 1, (o.Z : Int))) ++ [(H9, (Z : Int))] = (ms ++ [o9]).map (fun o => (packH (o.x : Int) 1, (o.Z : Int))) := by
                    rw [List.map_append, hH9, ← hZ9]
                    rfl
                  rw [hll] at S11
                  have hln : ms.length + 1 = (ms ++ [o9]).length := by simp
                  rw [hln] at hrun
                  clear hf hg S9 d9 hSz hcell9 hGS hG0 hG1 hll hp9 o9' hb9 S10 hMs10 hln hH9 hZ9 hclj
                  simp only [List.drop_succ_cons, List.drop_zero]
                  refine wpList_ran rfl (.tmp 109) (.tmp 116) rfl rfl rfl hrun ?_
                  go_wp2
                  go_roundw
                  case rel => exact ⟨r + 1, (a + 1), b', cap', s6, σ + 1, q', ow, _, (upd cl j Z), ms ++ [o9], by go_num, by simp, by go_num, by omega, by omega, by omega, S11, hMs11, J6⟩
                  case measure => simp [intOf]; omega
                · have h67 : E9 = 6 ∨ E9 = 7 := by
                    exact over_67 JB.out hj HTH.out HT.out hE9
                  rcases h67 with rfl | rfl
                  · refine wp_region_rely_tail Grown 4 [.val (.int .i64 j), .val (.pointer (some ⟨A, j, none⟩)), .val (.pointer (some ⟨b, 0, none⟩)), .val (.agg #[.int .i64 4, .int .i64 n, .int .i64 6, .int .i64 20, .int .i64 100, .int .i64 600, .int .i64 3, .pointer (some ⟨L.p, 0, none⟩), .int .i64 0])] (by kernel_rfl) Grown.refl Grown.trans (by decide) (by kernel_rfl) (by kernel_rfl) (by kernel_rfl) (by kernel_rfl) (by kernel_rfl) (by kernel_rfl) ?_
                    simp only [List.take_succ_cons, List.take_zero, relyAll, Act.put, List.setIfInBounds_toArray, List.set_cons_zero, List.set_cons_succ]
                    refine ⟨?_, ?_, ?_, ?_, ?_⟩
                    · intro w' hg _
                      refine Or.inl ⟨rfl, ?_⟩
                      go_simp
                      exact ⟨Grown.refl _, rfl⟩
                    · intro w' hg _
                      refine Or.inl ⟨rfl, ?_⟩
                      go_simp
                      exact ⟨Grown.refl _, rfl⟩
                    · intro w' hg _
                      refine Or.inl ⟨rfl, ?_⟩
                      have q1 := (SB.out.grown ((Below.refl _ _).drew)).grown hg
                      have qa := q1.a.cell (i := j) hj
                      rw [upd_same] at qa
                      simp only [Wh.v] at qa
                      go_simp
                      exact ⟨Grown.refl _, rfl⟩
                    · intro w' hg _
                      refine Or.inl ⟨rfl, ?_⟩
                      have vv := ((SB.out.grown ((Below.refl _ _).drew)).grown hg).f.v
                      have y0 := vv.c0
                      have y1 := vv.c1
                      have y2 := vv.c2
                      have y3 := vv.c3
                      have y4 := vv.c4
                      have y5 := vv.c5
                      have y6 := vv.c6
                      have y7 := vv.c7
                      have y8 := vv.c8
                      go_simp
                      exact ⟨Grown.refl _, rfl⟩
                    intro w5 hg _
                    have S5 := (SB.out.grown ((Below.refl _ _).drew)).grown hg
                    have hMs5 : M < w5.heap.size := by have := hg.size; have e : (World.heap (World.drew W)).size = W.heap.size := rfl; omega
                    clear hg
                    go_wp2_with (first
                      | (go_at_call 17; refine (S5.step SA.out hj HTH.out (by omega) HGd.out HO.out hκ HKZ.out hz2 HT.out rfl).mono ?_; rintro e w6 ⟨rfl, s6, S6, gd6⟩; have qa6 := S6.a.cell (i := j) hj; rw [upd_same] at qa6; simp only [Wh.v] at qa6; have dn := (S6.th j hj b Z κ _ (upd_same _ _ _)).1.done)
                      | (go_at_call 18; refine dn.mono ?_; rintro e w7 ⟨rfl, b7⟩; have S8 := (S6.grown b7).grown (grow_alloc (Below.refl _ _) (.cells #[.int .i64 6, .int .u64 H9, .int .i64 0, .int .i64 st9] 36)); have d8 := At.new w7 36 [.int .i64 6, .int .u64 H9, .int .i64 0, .int .i64 st9]; have qa8 := S8.a.cell (i := j) hj; have qaf := S8.a.frozen; have hDA : w7.heap.size ≠ A := by { have := (S6.grown b7).a.lt; omega }; have d9 := d8.other hDA j (.pointer none); have dE := d9.at0 0 rfl))
                    obtain ⟨-, J6⟩ := (JB.out.step hj HTH.out HT.out gd6).2.1 6 H9 st9 rfl (by decide)
                    have S9 := S8.drop SA.out (j := j)
                    simp only [upd_twice] at S9
                    try simp only [upd_twice] at J6
                    have hMs9 : M < ((w7.alloc (.cells #[.int .i64 6, .int .u64 H9, .int .i64 0, .int .i64 st9] 36)).setCell ⟨A, j, none⟩ (.pointer none)).heap.size := Nat.lt_of_le_of_lt S9.pm S9.p.lt
                    go_wp2
                    go_roundw
                    case rel => exact ⟨r + 1, (a + 1), pb, cap, s6, σ + 1, q', ow, _, (upd cl j Z), ms, by go_num, rfl, by go_num, by omega, by omega, by omega, S9, hMs9, J6⟩
                    case measure => simp [intOf]; omega
                  · refine wp_region_rely_tail Grown 4 [.val (.int .i64 j), .val (.pointer (some ⟨A, j, none⟩)), .val (.pointer (some ⟨b, 0, none⟩)), .val (.agg #[.int .i64 4, .int .i64 n, .int .i64 6, .int .i64 20, .int .i64 100, .int .i64 600, .int .i64 3, .pointer (some ⟨L.p, 0, none⟩), .int .i64 0])] (by kernel_rfl) Grown.refl Grown.trans (by decide) (by kernel_rfl) (by kernel_rfl) (by kernel_rfl) (by kernel_rfl) (by kernel_rfl) (by kernel_rfl) ?_
                    simp only [List.take_succ_cons, List.take_zero, relyAll, Act.put, List.setIfInBounds_toArray, List.set_cons_zero, List.set_cons_succ]
                    refine ⟨?_, ?_, ?_, ?_, ?_⟩
                    · intro w' hg _
                      refine Or.inl ⟨rfl, ?_⟩
                      go_simp
                      exact ⟨Grown.refl _, rfl⟩
                    · intro w' hg _
                      refine Or.inl ⟨rfl, ?_⟩
                      go_simp
                      exact ⟨Grown.refl _, rfl⟩
                    · intro w' hg _
                      refine Or.inl ⟨rfl, ?_⟩
                      have q1 := (SB.out.grown ((Below.refl _ _).drew)).grown hg
                      have qa := q1.a.cell (i := j) hj
                      rw [upd_same] at qa
                      simp only [Wh.v] at qa
                      go_simp
                      exact ⟨Grown.refl _, rfl⟩
                    · intro w' hg _
                      refine Or.inl ⟨rfl, ?_⟩
                      have vv := ((SB.out.grown ((Below.refl _ _).drew)).grown hg).f.v
                      have y0 := vv.c0
                      have y1 := vv.c1
                      have y2 := vv.c2
                      have y3 := vv.c3
                      have y4 := vv.c4
                      have y5 := vv.c5
                      have y6 := vv.c6
                      have y7 := vv.c7
                      have y8 := vv.c8
                      go_simp
                      exact ⟨Grown.refl _, rfl⟩
                    intro w5 hg _
                    have S5 := (SB.out.grown ((Below.refl _ _).drew)).grown hg
                    have hMs5 : M < w5.heap.size := by have := hg.size; have e : (World.heap (World.drew W)).size = W.heap.size := rfl; omega
                    clear hg
                    go_wp2_with (first
                      | (go_at_call 17; refine (S5.step SA.out hj HTH.out (by omega) HGd.out HO.out hκ HKZ.out hz2 HT.out rfl).mono ?_; rintro e w6 ⟨rfl, s6, S6, gd6⟩; have qa6 := S6.a.cell (i := j) hj; rw [upd_same] at qa6; simp only [Wh.v] at qa6; have dn := (S6.th j hj b Z κ _ (upd_same _ _ _)).1.done)
                      | (go_at_call 18; refine dn.mono ?_; rintro e w7 ⟨rfl, b7⟩; have S8 := (S6.grown b7).grown (grow_alloc (Below.refl _ _) (.cells #[.int .i64 7, .int .u64 H9, .int .i64 0, .int .i64 st9] 36)); have d8 := At.new w7 36 [.int .i64 7, .int .u64 H9, .int .i64 0, .int .i64 st9]; have qa8 := S8.a.cell (i := j) hj; have qaf := S8.a.frozen; have hDA : w7.heap.size ≠ A := by { have := (S6.grown b7).a.lt; omega }; have d9 := d8.other hDA j (.pointer none); have dE := d9.at0 0 rfl))
                    obtain ⟨-, J6⟩ := (JB.out.step hj HTH.out HT.out gd6).2.1 7 H9 st9 rfl (by decide)
                    have S9 := S8.drop SA.out (j := j)
                    simp only [upd_twice] at S9
                    try simp only [upd_twice] at J6
                    have hMs9 : M < ((w7.alloc (.cells #[.int .i64 7, .int .u64 H9, .int .i64 0, .int .i64 st9] 36)).setCell ⟨A, j, none⟩ (.pointer none)).heap.size := Nat.lt_of_le_of_lt S9.pm S9.p.lt
                    go_wp2
                    go_roundw
                    case rel => exact ⟨r + 1, (a + 1), pb, cap, s6, σ + 1, q', ow, _, (upd cl j Z), ms, by go_num, rfl, by go_num, by omega, by omega, by omega, S9, hMs9, J6⟩
                    case measure => simp [intOf]; omega
            · have haN2 : (NC : Int) ≤ (a : Int) := by omega
              go_wp2
              go_roundw
              case rel => exact ⟨r + 1, a, pb, cap, s2, σ, q, ow, θ, cl, ms, by go_num, rfl, by go_num, by omega, by omega, by omega, SS.out, hMs, JJ.out⟩
              case measure => simp [intOf]; omega
          | «at» b Z κ α =>
            rw [hθ] at qa
            simp only [Wh.v] at qa
            go_wp2
            clear qa
            obtain ⟨hgd, ho, hκ, hkz, hz1, hz2, -⟩ : α.good 4 n 6 20 κ σ q ∧ α.over? = false ∧ κ < 4 ∧ classOf Z = κ ∧ 1 ≤ Z ∧ Z ≤ 16 ∧ True := by
              have h9 := JJ.out.ok j hj
              rw [hθ] at h9
              exact ⟨h9.1, h9.2.1, h9.2.2.1, h9.2.2.2.1, h9.2.2.2.2.1, h9.2.2.2.2.2.1, trivial⟩
            obtain ⟨⟨q', α'⟩, ht⟩ : ∃ p, alTurn 4 n 6 20 κ Z false σ q α = p := ⟨_, rfl⟩
            have HT : Hid (alTurn 4 n 6 20 κ Z false σ q α = (q', α')) := ht
            have HGd : Hid (α.good 4 n 6 20 κ σ q) := hgd
            have HO : Hid (α.over? = false) := ho
            have HKZ : Hid (classOf Z = κ) := hkz
            have HTH : Hid (θ j = .at b Z κ α) := hθ
            clear hgd ho hkz ht
            cases hd : α'.over? with
            | false =>
              refine wp_region_rely_tail Grown 4 [.val (.int .i64 j), .val (.pointer (some ⟨A, j, none⟩)), .val (.pointer (some ⟨b, 0, none⟩)), .val (.agg #[.int .i64 4, .int .i64 n, .int .i64 6, .int .i64 20, .int .i64 100, .int .i64 600, .int .i64 3, .pointer (some ⟨L.p, 0, none⟩), .int .i64 0])] (by kernel_rfl) Grown.refl Grown.trans (by decide) (by kernel_rfl) (by kernel_rfl) (by kernel_rfl) (by kernel_rfl) (by kernel_rfl) (by kernel_rfl) ?_
              simp only [List.take_succ_cons, List.take_zero, relyAll, Act.put, List.setIfInBounds_toArray, List.set_cons_zero, List.set_cons_succ]
              refine ⟨?_, ?_, ?_, ?_, ?_⟩
              · intro w' hg _
                refine Or.inl ⟨rfl, ?_⟩
                go_simp
                exact ⟨Grown.refl _, rfl⟩
              · intro w' hg _
                refine Or.inl ⟨rfl, ?_⟩
                go_simp
                exact ⟨Grown.refl _, rfl⟩
              · intro w' hg _
                refine Or.inl ⟨rfl, ?_⟩
                have q1 := (SS.out.grown ((Below.refl _ _).drew)).grown hg
                have qa := q1.a.cell (i := j) hj
                rw [hθ] at qa
                simp only [Wh.v] at qa
                go_simp
                exact ⟨Grown.refl _, rfl⟩
              · intro w' hg _
                refine Or.inl ⟨rfl, ?_⟩
                have vv := ((SS.out.grown ((Below.refl _ _).drew)).grown hg).f.v
                have y0 := vv.c0
                have y1 := vv.c1
                have y2 := vv.c2
                have y3 := vv.c3
                have y4 := vv.c4
                have y5 := vv.c5
                have y6 := vv.c6
                have y7 := vv.c7
                have y8 := vv.c8
                go_simp
                exact ⟨Grown.refl _, rfl⟩
              intro w5 hg _
              have S5 := (SS.out.grown ((Below.refl _ _).drew)).grown hg
              have hMs5 : M < w5.heap.size := by have := hg.size; have e : (World.heap (World.drew wr)).size = wr.heap.size := rfl; omega
              clear hg
              go_wp2_with (go_at_call 17; refine (S5.step SA.out hj HTH.out (by omega) HGd.out HO.out hκ HKZ.out hz2 HT.out hd).mono ?_; rintro e w6 ⟨rfl, s6, S6, gd6⟩)
              have hMs6 : M < w6.heap.size := Nat.lt_of_le_of_lt S6.pm S6.p.lt
              obtain ⟨ow', J6⟩ := (JJ.out.step hj HTH.out HT.out gd6).1 hd
              go_roundw
              case rel => exact ⟨r + 1, a, pb, cap, s6, σ + 1, q', ow', _, cl, ms, by go_num, rfl, by go_num, by omega, by omega, by omega, S6, hMs6, J6⟩
              case measure => simp [intOf]; omega
            | true =>
              obtain ⟨E9, H9, st9, rfl⟩ : ∃ E9 H9 st9, α' = .over E9 H9 st9 := by
                cases α' with
                | over E9 H9 st9 => exact ⟨E9, H9, st9, rfl⟩
                | _ => cases hd
              by_cases hE9 : E9 = 0
              · subst hE9
                refine wp_region_rely_tail Grown 4 [.val (.int .i64 j), .val (.pointer (some ⟨A, j, none⟩)), .val (.pointer (some ⟨b, 0, none⟩)), .val (.agg #[.int .i64 4, .int .i64 n, .int .i64 6, .int .i64 20, .int .i64 100, .int .i64 600, .int .i64 3, .pointer (some ⟨L.p, 0, none⟩), .int .i64 0])] (by kernel_rfl) Grown.refl Grown.trans (by decide) (by kernel_rfl) (by kernel_rfl) (by kernel_rfl) (by kernel_rfl) (by kernel_rfl) (by kernel_rfl) ?_
                simp only [List.take_succ_cons, List.take_zero, relyAll, Act.put, List.setIfInBounds_toArray, List.set_cons_zero, List.set_cons_succ]
                refine ⟨?_, ?_, ?_, ?_, ?_⟩
                · intro w' hg _
                  refine Or.inl ⟨rfl, ?_⟩
                  go_simp
                  exact ⟨Grown.refl _, rfl⟩
                · intro w' hg _
                  refine Or.inl ⟨rfl, ?_⟩
                  go_simp
                  exact ⟨Grown.refl _, rfl⟩
                · intro w' hg _
                  refine Or.inl ⟨rfl, ?_⟩
                  have q1 := (SS.out.grown ((Below.refl _ _).drew)).grown hg
                  have qa := q1.a.cell (i := j) hj
                  rw [hθ] at qa
                  simp only [Wh.v] at qa
                  go_simp
                  exact ⟨Grown.refl _, rfl⟩
                · intro w' hg _
                  refine Or.inl ⟨rfl, ?_⟩
                  have vv := ((SS.out.grown ((Below.refl _ _).drew)).grown hg).f.v
                  have y0 := vv.c0
                  have y1 := vv.c1
                  have y2 := vv.c2
                  have y3 := vv.c3
                  have y4 := vv.c4
                  have y5 := vv.c5
                  have y6 := vv.c6
                  have y7 := vv.c7
                  have y8 := vv.c8
                  go_simp
                  exact ⟨Grown.refl _, rfl⟩
                intro w5 hg _
                have S5 := (SS.out.grown ((Below.refl _ _).drew)).grown hg
                have hMs5 : M < w5.heap.size := by have := hg.size; have e : (World.heap (World.drew wr)).size = wr.heap.size := rfl; omega
                clear hg
                go_wp2_with (first
                  | (go_at_call 17; refine (S5.step SA.out hj HTH.out (by omega) HGd.out HO.out hκ HKZ.out hz2 HT.out rfl).mono ?_; rintro e w6 ⟨rfl, s6, S6, gd6⟩; have qa6 := S6.a.cell (i := j) hj; rw [upd_same] at qa6; simp only [Wh.v] at qa6; have dn := (S6.th j hj b Z κ _ (upd_same _ _ _)).1.done)
                  | (go_at_call 18; refine dn.mono ?_; rintro e w7 ⟨rfl, b7⟩; have S8 := (S6.grown b7).grown (grow_alloc (Below.refl _ _) (.cells #[.int .i64 0, .int .u64 H9, .int .i64 0, .int .i64 st9] 36)); have d8 := At.new w7 36 [.int .i64 0, .int .u64 H9, .int .i64 0, .int .i64 st9]; have qa8 := S8.a.cell (i := j) hj; have qaf := S8.a.frozen; have hDA : w7.heap.size ≠ A := by { have := (S6.grown b7).a.lt; omega }; have d9 := d8.other hDA j (.pointer none); have dE := d9.at0 0 rfl))
                obtain ⟨o9, hH9, hZ9, J6⟩ := (JJ.out.step hj HTH.out HT.out gd6).2.2 H9 st9 rfl
                have S9 := S8.drop SA.out (j := j)
                simp only [upd_twice] at S9
                try simp only [upd_twice] at J6
                obtain ⟨D, hD⟩ : ∃ D, w7.heap.size = D := ⟨_, rfl⟩
                rw [hD] at d9 ⊢
                have hclj : (cl) j = Z := (S6.th j hj b Z κ _ (upd_same _ _ _)).2.2.1
                refine wp_over (fun W => Three w W L E A C M n s6 (σ + 1) q' (upd θ j .nil) (cl) pb cap (ms.map (fun o => (packH (o.x : Int) 1, (o.Z : Int)))) ∧ At W D 0 36 _ [.int .i64 0, .int .u64 H9, .int .i64 0, .int .i64 st9]) (by exact ⟨S9, d9⟩) ?_
                clear S9 d9 d8 S8 S6 S5 dn qa6 qa8 qaf dE hDA b7 gd6 hD
                rintro W ⟨S9, d9⟩
                obtain ⟨Sz, hSz⟩ : ∃ Sz, W.heap.size = Sz := ⟨_, rfl⟩
                have hcell9 := S9.c.cell (i := j) hj
                refine wp_region_rely_tail Grown 8 [.val (.slice (some ⟨pb, 0, none⟩) ms.length cap), .val (.pointer (some ⟨D, 1, none⟩)), .val (.int .u64 H9), .val (.int .i64 j), .val (.pointer (some ⟨C, j, none⟩)), .val (.int .i64 Z), .val (.agg #[.int .u64 H9, .int .i64 Z]), .that (fun w' v => ∃ G, v = .slice (some ⟨G, 0, none⟩) 1 1 ∧ Sz ≤ G ∧ w'.cell? ⟨G, 0, none⟩ = some (.int .u64 H9) ∧ w'.cell? ⟨G, 1, none⟩ = some (.int .i64 Z)) ?_] (by kernel_rfl) Grown.refl Grown.trans (by decide) (by kernel_rfl) (by kernel_rfl) (by kernel_rfl) (by kernel_rfl) (by kernel_rfl) (by kernel_rfl) ?_
                · rintro x1 y1 v hg ⟨G, hv, hb, h0, h1⟩
                  exact ⟨G, hv, hb, keep' hg h0, keep' hg h1⟩
                simp only [List.take_succ_cons, List.take_zero, relyAll, Act.put, List.setIfInBounds_toArray, List.set_cons_zero, List.set_cons_succ]
                refine ⟨?_, ?_, ?_, ?_, ?_, ?_, ?_, ?_, ?_⟩
                · intro w' hg _
                  refine Or.inl ⟨rfl, ?_⟩
                  go_simp
                  exact ⟨Grown.refl _, rfl⟩
                · intro w' hg _
                  refine Or.inl ⟨rfl, ?_⟩
                  go_simp
                  exact ⟨Grown.refl _, rfl⟩
                · intro w' hg _
                  refine Or.inl ⟨rfl, ?_⟩
                  have q1 := (d9.drew.grown hg).at0 1 rfl
                  go_simp
                  exact ⟨Grown.refl _, rfl⟩
                · intro w' hg _
                  refine Or.inl ⟨rfl, ?_⟩
                  go_simp
                  exact ⟨Grown.refl _, rfl⟩
                · intro w' hg _
                  refine Or.inl ⟨rfl, ?_⟩
                  go_simp
                  exact ⟨Grown.refl _, rfl⟩
                · intro w' hg _
                  refine Or.inl ⟨rfl, ?_⟩
                  have q1 := ((S9.grown ((Below.refl _ _).drew)).grown hg).c.cell (i := j) hj
                  rw [hclj] at q1
                  go_simp
                  exact ⟨Grown.refl _, rfl⟩
                · intro w' hg _
                  refine Or.inl ⟨rfl, ?_⟩
                  go_simp
                  exact ⟨Grown.refl _, rfl⟩
                · intro w' hg _
                  refine Or.inl ⟨rfl, ?_⟩
                  have hz : Sz ≤ w'.heap.size := by have := hg.size; have e : W.drew.heap.size = W.heap.size := rfl; omega
                  go_simp
                  exact ⟨grow_alloc (Below.refl _ _) _, _, rfl, hz, by simp, by simp⟩
                intro vG w8 hg hf
                obtain ⟨G, rfl, hGS, hG0, hG1⟩ := hf.1
                have S10 := (S9.grown ((Below.refl _ _).drew)).grown hg
                have hMs10 : M < w8.heap.size := Nat.lt_of_le_of_lt S10.pm S10.p.lt
                obtain ⟨b', cap', w9, hrun, hp9, o9', hb9⟩ := S10.p.app G H9 Z hG0 hG1 (by simp; omega) 45
                rw [List.length_map] at hrun
                have S11 := S10.more SA.out o9' hp9 hb9 (by omega)
                have hMs11 : M < w9.heap.size := Nat.lt_of_le_of_lt S11.pm S11.p.lt
                have hll : ms.map (fun o => (packH (o.x : Int) 1, (o.Z : Int))) ++ [(H9, (Z : Int))] = (ms ++ [o9]).map (fun o => (packH (o.x : Int) 1, (o.Z : Int))) := by
                  rw [List.map_append, hH9, ← hZ9]
                  rfl
                rw [hll] at S11
                have hln : ms.length + 1 = (ms ++ [o9]).length := by simp
                rw [hln] at hrun
                clear hf hg S9 d9 hSz hcell9 hGS hG0 hG1 hll hp9 o9' hb9 S10 hMs10 hln hH9 hZ9 hclj
                simp only [List.drop_succ_cons, List.drop_zero]
                refine wpList_ran rfl (.tmp 109) (.tmp 116) rfl rfl rfl hrun ?_
                go_wp2
                go_roundw
                case rel => exact ⟨r + 1, a, b', cap', s6, σ + 1, q', ow, _, cl, ms ++ [o9], by go_num, by simp, by go_num, by omega, by omega, by omega, S11, hMs11, J6⟩
                case measure => simp [intOf]; omega
              · have h67 : E9 = 6 ∨ E9 = 7 := by
                  exact over_67 JJ.out hj HTH.out HT.out hE9
                rcases h67 with rfl | rfl
                · refine wp_region_rely_tail Grown 4 [.val (.int .i64 j), .val (.pointer (some ⟨A, j, none⟩)), .val (.pointer (some ⟨b, 0, none⟩)), .val (.agg #[.int .i64 4, .int .i64 n, .int .i64 6, .int .i64 20, .int .i64 100, .int .i64 600, .int .i64 3, .pointer (some ⟨L.p, 0, none⟩), .int .i64 0])] (by kernel_rfl) Grown.refl Grown.trans (by decide) (by kernel_rfl) (by kernel_rfl) (by kernel_rfl) (by kernel_rfl) (by kernel_rfl) (by kernel_rfl) ?_
                  simp only [List.take_succ_cons, List.take_zero, relyAll, Act.put, List.setIfInBounds_toArray, List.set_cons_zero, List.set_cons_succ]
                  refine ⟨?_, ?_, ?_, ?_, ?_⟩
                  · intro w' hg _
                    refine Or.inl ⟨rfl, ?_⟩
                    go_simp
                    exact ⟨Grown.refl _, rfl⟩
                  · intro w' hg _
                    refine Or.inl ⟨rfl, ?_⟩
                    go_simp
                    exact ⟨Grown.refl _, rfl⟩
                  · intro w' hg _
                    refine Or.inl ⟨rfl, ?_⟩
                    have q1 := (SS.out.grown ((Below.refl _ _).drew)).grown hg
                    have qa := q1.a.cell (i := j) hj
                    rw [hθ] at qa
                    simp only [Wh.v] at qa
                    go_simp
                    exact ⟨Grown.refl _, rfl⟩
                  · intro w' hg _
                    refine Or.inl ⟨rfl, ?_⟩
                    have vv := ((SS.out.grown ((Below.refl _ _).drew)).grown hg).f.v
                    have y0 := vv.c0
                    have y1 := vv.c1
                    have y2 := vv.c2
                    have y3 := vv.c3
                    have y4 := vv.c4
                    have y5 := vv.c5
                    have y6 := vv.c6
                    have y7 := vv.c7
                    have y8 := vv.c8
                    go_simp
                    exact ⟨Grown.refl _, rfl⟩
                  intro w5 hg _
                  have S5 := (SS.out.grown ((Below.refl _ _).drew)).grown hg
                  have hMs5 : M < w5.heap.size := by have := hg.size; have e : (World.heap (World.drew wr)).size = wr.heap.size := rfl; omega
                  clear hg
                  go_wp2_with (first
                    | (go_at_call 17; refine (S5.step SA.out hj HTH.out (by omega) HGd.out HO.out hκ HKZ.out hz2 HT.out rfl).mono ?_; rintro e w6 ⟨rfl, s6, S6, gd6⟩; have qa6 := S6.a.cell (i := j) hj; rw [upd_same] at qa6; simp only [Wh.v] at qa6; have dn := (S6.th j hj b Z κ _ (upd_same _ _ _)).1.done)
                    | (go_at_call 18; refine dn.mono ?_; rintro e w7 ⟨rfl, b7⟩; have S8 := (S6.grown b7).grown (grow_alloc (Below.refl _ _) (.cells #[.int .i64 6, .int .u64 H9, .int .i64 0, .int .i64 st9] 36)); have d8 := At.new w7 36 [.int .i64 6, .int .u64 H9, .int .i64 0, .int .i64 st9]; have qa8 := S8.a.cell (i := j) hj; have qaf := S8.a.frozen; have hDA : w7.heap.size ≠ A := by { have := (S6.grown b7).a.lt; omega }; have d9 := d8.other hDA j (.pointer none); have dE := d9.at0 0 rfl))
                  obtain ⟨-, J6⟩ := (JJ.out.step hj HTH.out HT.out gd6).2.1 6 H9 st9 rfl (by decide)
                  have S9 := S8.drop SA.out (j := j)
                  simp only [upd_twice] at S9
                  try simp only [upd_twice] at J6
                  have hMs9 : M < ((w7.alloc (.cells #[.int .i64 6, .int .u64 H9, .int .i64 0, .int .i64 st9] 36)).setCell ⟨A, j, none⟩ (.pointer none)).heap.size := Nat.lt_of_le_of_lt S9.pm S9.p.lt
                  go_wp2
                  go_roundw
                  case rel => exact ⟨r + 1, a, pb, cap, s6, σ + 1, q', ow, _, cl, ms, by go_num, rfl, by go_num, by omega, by omega, by omega, S9, hMs9, J6⟩
                  case measure => simp [intOf]; omega
                · refine wp_region_rely_tail Grown 4 [.val (.int .i64 j), .val (.pointer (some ⟨A, j, none⟩)), .val (.pointer (some ⟨b, 0, none⟩)), .val (.agg #[.int .i64 4, .int .i64 n, .int .i64 6, .int .i64 20, .int .i64 100, .int .i64 600, .int .i64 3, .pointer (some ⟨L.p, 0, none⟩), .int .i64 0])] (by kernel_rfl) Grown.refl Grown.trans (by decide) (by kernel_rfl) (by kernel_rfl) (by kernel_rfl) (by kernel_rfl) (by kernel_rfl) (by kernel_rfl) ?_
                  simp only [List.take_succ_cons, List.take_zero, relyAll, Act.put, List.setIfInBounds_toArray, List.set_cons_zero, List.set_cons_succ]
                  refine ⟨?_, ?_, ?_, ?_, ?_⟩
                  · intro w' hg _
                    refine Or.inl ⟨rfl, ?_⟩
                    go_simp
                    exact ⟨Grown.refl _, rfl⟩
                  · intro w' hg _
                    refine Or.inl ⟨rfl, ?_⟩
                    go_simp
                    exact ⟨Grown.refl _, rfl⟩
                  · intro w' hg _
                    refine Or.inl ⟨rfl, ?_⟩
                    have q1 := (SS.out.grown ((Below.refl _ _).drew)).grown hg
                    have qa := q1.a.cell (i := j) hj
                    rw [hθ] at qa
                    simp only [Wh.v] at qa
                    go_simp
                    exact ⟨Grown.refl _, rfl⟩
                  · intro w' hg _
                    refine Or.inl ⟨rfl, ?_⟩
                    have vv := ((SS.out.grown ((Below.refl _ _).drew)).grown hg).f.v
                    have y0 := vv.c0
                    have y1 := vv.c1
                    have y2 := vv.c2
                    have y3 := vv.c3
                    have y4 := vv.c4
                    have y5 := vv.c5
                    have y6 := vv.c6
                    have y7 := vv.c7
                    have y8 := vv.c8
                    go_simp
                    exact ⟨Grown.refl _, rfl⟩
                  intro w5 hg _
                  have S5 := (SS.out.grown ((Below.refl _ _).drew)).grown hg
                  have hMs5 : M < w5.heap.size := by have := hg.size; have e : (World.heap (World.drew wr)).size = wr.heap.size := rfl; omega
                  clear hg
                  go_wp2_with (first
                    | (go_at_call 17; refine (S5.step SA.out hj HTH.out (by omega) HGd.out HO.out hκ HKZ.out hz2 HT.out rfl).mono ?_; rintro e w6 ⟨rfl, s6, S6, gd6⟩; have qa6 := S6.a.cell (i := j) hj; rw [upd_same] at qa6; simp only [Wh.v] at qa6; have dn := (S6.th j hj b Z κ _ (upd_same _ _ _)).1.done)
                    | (go_at_call 18; refine dn.mono ?_; rintro e w7 ⟨rfl, b7⟩; have S8 := (S6.grown b7).grown (grow_alloc (Below.refl _ _) (.cells #[.int .i64 7, .int .u64 H9, .int .i64 0, .int .i64 st9] 36)); have d8 := At.new w7 36 [.int .i64 7, .int .u64 H9, .int .i64 0, .int .i64 st9]; have qa8 := S8.a.cell (i := j) hj; have qaf := S8.a.frozen; have hDA : w7.heap.size ≠ A := by { have := (S6.grown b7).a.lt; omega }; have d9 := d8.other hDA j (.pointer none); have dE := d9.at0 0 rfl))
                  obtain ⟨-, J6⟩ := (JJ.out.step hj HTH.out HT.out gd6).2.1 7 H9 st9 rfl (by decide)
                  have S9 := S8.drop SA.out (j := j)
                  simp only [upd_twice] at S9
                  try simp only [upd_twice] at J6
                  have hMs9 : M < ((w7.alloc (.cells #[.int .i64 7, .int .u64 H9, .int .i64 0, .int .i64 st9] 36)).setCell ⟨A, j, none⟩ (.pointer none)).heap.size := Nat.lt_of_le_of_lt S9.pm S9.p.lt
                  go_wp2
                  go_roundw
                  case rel => exact ⟨r + 1, a, pb, cap, s6, σ + 1, q', ow, _, cl, ms, by go_num, rfl, by go_num, by omega, by omega, by omega, S9, hMs9, J6⟩
                  case measure => simp [intOf]; omega
      · have hrN' : ¬ (r : Int) < (N : Int) := by omega
        have hrNg : (N : Int) ≤ (r : Int) := by omega
        obtain ⟨j, hj1, hj⟩ := rem3 r
        have hj' : (j : Int) < 3 := by omega
        have SS : Hid (Three w wr L E A C M n s2 σ q θ cl pb cap (ms.map (fun o => (packH (o.x : Int) 1, (o.Z : Int))))) := S
        have JJ : Hid (Jam n q σ ow θ ms) := J
        have qa := S.a.cell (i := j) hj
        clear S J
        cases hθ : θ j with
        | nil =>
          rw [hθ] at qa
          simp only [Wh.v] at qa
          by_cases haN' : a < NC
          · have haN2 : (a : Int) < (NC : Int) := by omega
            have haN3 : ¬ (NC : Int) ≤ (a : Int) := by omega
            go_wp2
            go_roundw
            case rel => exact ⟨r + 1, a, pb, cap, s2, σ, q, ow, θ, cl, ms, by go_num, rfl, by go_num, by omega, by omega, by omega, SS.out, hMs, JJ.out⟩
            case measure => simp [intOf]; omega
          · have haN2 : (NC : Int) ≤ (a : Int) := by omega
            go_wp2
            go_roundw
            case rel => exact ⟨r + 1, a, pb, cap, s2, σ, q, ow, θ, cl, ms, by go_num, rfl, by go_num, by omega, by omega, by omega, SS.out, hMs, JJ.out⟩
            case measure => simp [intOf]; omega
        | «at» b Z κ α =>
          rw [hθ] at qa
          simp only [Wh.v] at qa
          go_wp2
          clear qa
          obtain ⟨hgd, ho, hκ, hkz, hz1, hz2, -⟩ : α.good 4 n 6 20 κ σ q ∧ α.over? = false ∧ κ < 4 ∧ classOf Z = κ ∧ 1 ≤ Z ∧ Z ≤ 16 ∧ True := by
            have h9 := JJ.out.ok j hj
            rw [hθ] at h9
            exact ⟨h9.1, h9.2.1, h9.2.2.1, h9.2.2.2.1, h9.2.2.2.2.1, h9.2.2.2.2.2.1, trivial⟩
          obtain ⟨⟨q', α'⟩, ht⟩ : ∃ p, alTurn 4 n 6 20 κ Z false σ q α = p := ⟨_, rfl⟩
          have HT : Hid (alTurn 4 n 6 20 κ Z false σ q α = (q', α')) := ht
          have HGd : Hid (α.good 4 n 6 20 κ σ q) := hgd
          have HO : Hid (α.over? = false) := ho
          have HKZ : Hid (classOf Z = κ) := hkz
          have HTH : Hid (θ j = .at b Z κ α) := hθ
          clear hgd ho hkz ht
          cases hd : α'.over? with
          | false =>
            refine wp_region_rely_tail Grown 4 [.val (.int .i64 j), .val (.pointer (some ⟨A, j, none⟩)), .val (.pointer (some ⟨b, 0, none⟩)), .val (.agg #[.int .i64 4, .int .i64 n, .int .i64 6, .int .i64 20, .int .i64 100, .int .i64 600, .int .i64 3, .pointer (some ⟨L.p, 0, none⟩), .int .i64 0])] (by kernel_rfl) Grown.refl Grown.trans (by decide) (by kernel_rfl) (by kernel_rfl) (by kernel_rfl) (by kernel_rfl) (by kernel_rfl) (by kernel_rfl) ?_
            simp only [List.take_succ_cons, List.take_zero, relyAll, Act.put, List.setIfInBounds_toArray, List.set_cons_zero, List.set_cons_succ]
            refine ⟨?_, ?_, ?_, ?_, ?_⟩
            · intro w' hg _
              refine Or.inl ⟨rfl, ?_⟩
              go_simp
              exact ⟨Grown.refl _, rfl⟩
            · intro w' hg _
              refine Or.inl ⟨rfl, ?_⟩
              go_simp
              exact ⟨Grown.refl _, rfl⟩
            · intro w' hg _
              refine Or.inl ⟨rfl, ?_⟩
              have q1 := (SS.out.grown ((Below.refl _ _).drew)).grown hg
              have qa := q1.a.cell (i := j) hj
              rw [hθ] at qa
              simp only [Wh.v] at qa
              go_simp
              exact ⟨Grown.refl _, rfl⟩
            · intro w' hg _
              refine Or.inl ⟨rfl, ?_⟩
              have vv := ((SS.out.grown ((Below.refl _ _).drew)).grown hg).f.v
              have y0 := vv.c0
              have y1 := vv.c1
              have y2 := vv.c2
              have y3 := vv.c3
              have y4 := vv.c4
              have y5 := vv.c5
              have y6 := vv.c6
              have y7 := vv.c7
              have y8 := vv.c8
              go_simp
              exact ⟨Grown.refl _, rfl⟩
            intro w5 hg _
            have S5 := (SS.out.grown ((Below.refl _ _).drew)).grown hg
            have hMs5 : M < w5.heap.size := by have := hg.size; have e : (World.heap (World.drew wr)).size = wr.heap.size := rfl; omega
            clear hg
            go_wp2_with (go_at_call 17; refine (S5.step SA.out hj HTH.out (by omega) HGd.out HO.out hκ HKZ.out hz2 HT.out hd).mono ?_; rintro e w6 ⟨rfl, s6, S6, gd6⟩)
            have hMs6 : M < w6.heap.size := Nat.lt_of_le_of_lt S6.pm S6.p.lt
            obtain ⟨ow', J6⟩ := (JJ.out.step hj HTH.out HT.out gd6).1 hd
            go_roundw
            case rel => exact ⟨r + 1, a, pb, cap, s6, σ + 1, q', ow', _, cl, ms, by go_num, rfl, by go_num, by omega, by omega, by omega, S6, hMs6, J6⟩
            case measure => simp [intOf]; omega
          | true =>
            obtain ⟨E9, H9, st9, rfl⟩ : ∃ E9 H9 st9, α' = .over E9 H9 st9 := by
              cases α' with
              | over E9 H9 st9 => exact ⟨E9, H9, st9, rfl⟩
              | _ => cases hd
            by_cases hE9 : E9 = 0
            · subst hE9
              refine wp_region_rely_tail Grown 4 [.val (.int .i64 j), .val (.pointer (some ⟨A, j, none⟩)), .val (.pointer (some ⟨b, 0, none⟩)), .val (.agg #[.int .i64 4, .int .i64 n, .int .i64 6, .int .i64 20, .int .i64 100, .int .i64 600, .int .i64 3, .pointer (some ⟨L.p, 0, none⟩), .int .i64 0])] (by kernel_rfl) Grown.refl Grown.trans (by decide) (by kernel_rfl) (by kernel_rfl) (by kernel_rfl) (by kernel_rfl) (by kernel_rfl) (by kernel_rfl) ?_
              simp only [List.take_succ_cons, List.take_zero, relyAll, Act.put, List.setIfInBounds_toArray, List.set_cons_zero, List.set_cons_succ]
              refine ⟨?_, ?_, ?_, ?_, ?_⟩
              · intro w' hg _
                refine Or.inl ⟨rfl, ?_⟩
                go_simp
                exact ⟨Grown.refl _, rfl⟩
              · intro w' hg _
                refine Or.inl ⟨rfl, ?_⟩
                go_simp
                exact ⟨Grown.refl _, rfl⟩
              · intro w' hg _
                refine Or.inl ⟨rfl, ?_⟩
                have q1 := (SS.out.grown ((Below.refl _ _).drew)).grown hg
                have qa := q1.a.cell (i := j) hj
                rw [hθ] at qa
                simp only [Wh.v] at qa
                go_simp
                exact ⟨Grown.refl _, rfl⟩
              · intro w' hg _
                refine Or.inl ⟨rfl, ?_⟩
                have vv := ((SS.out.grown ((Below.refl _ _).drew)).grown hg).f.v
                have y0 := vv.c0
                have y1 := vv.c1
                have y2 := vv.c2
                have y3 := vv.c3
                have y4 := vv.c4
                have y5 := vv.c5
                have y6 := vv.c6
                have y7 := vv.c7
                have y8 := vv.c8
                go_simp
                exact ⟨Grown.refl _, rfl⟩
              intro w5 hg _
              have S5 := (SS.out.grown ((Below.refl _ _).drew)).grown hg
              have hMs5 : M < w5.heap.size := by have := hg.size; have e : (World.heap (World.drew wr)).size = wr.heap.size := rfl; omega
              clear hg
              go_wp2_with (first
                | (go_at_call 17; refine (S5.step SA.out hj HTH.out (by omega) HGd.out HO.out hκ HKZ.out hz2 HT.out rfl).mono ?_; rintro e w6 ⟨rfl, s6, S6, gd6⟩; have qa6 := S6.a.cell (i := j) hj; rw [upd_same] at qa6; simp only [Wh.v] at qa6; have dn := (S6.th j hj b Z κ _ (upd_same _ _ _)).1.done)
                | (go_at_call 18; refine dn.mono ?_; rintro e w7 ⟨rfl, b7⟩; have S8 := (S6.grown b7).grown (grow_alloc (Below.refl _ _) (.cells #[.int .i64 0, .int .u64 H9, .int .i64 0, .int .i64 st9] 36)); have d8 := At.new w7 36 [.int .i64 0, .int .u64 H9, .int .i64 0, .int .i64 st9]; have qa8 := S8.a.cell (i := j) hj; have qaf := S8.a.frozen; have hDA : w7.heap.size ≠ A := by { have := (S6.grown b7).a.lt; omega }; have d9 := d8.other hDA j (.pointer none); have dE := d9.at0 0 rfl))
              obtain ⟨o9, hH9, hZ9, J6⟩ := (JJ.out.step hj HTH.out HT.out gd6).2.2 H9 st9 rfl
              have S9 := S8.drop SA.out (j := j)
              simp only [upd_twice] at S9
              try simp only [upd_twice] at J6
              obtain ⟨D, hD⟩ : ∃ D, w7.heap.size = D := ⟨_, rfl⟩
              rw [hD] at d9 ⊢
              have hclj : (cl) j = Z := (S6.th j hj b Z κ _ (upd_same _ _ _)).2.2.1
              refine wp_over (fun W => Three w W L E A C M n s6 (σ + 1) q' (upd θ j .nil) (cl) pb cap (ms.map (fun o => (packH (o.x : Int) 1, (o.Z : Int)))) ∧ At W D 0 36 _ [.int .i64 0, .int .u64 H9, .int .i64 0, .int .i64 st9]) (by exact ⟨S9, d9⟩) ?_
              clear S9 d9 d8 S8 S6 S5 dn qa6 qa8 qaf dE hDA b7 gd6 hD
              rintro W ⟨S9, d9⟩
              obtain ⟨Sz, hSz⟩ : ∃ Sz, W.heap.size = Sz := ⟨_, rfl⟩
              have hcell9 := S9.c.cell (i := j) hj
              refine wp_region_rely_tail Grown 8 [.val (.slice (some ⟨pb, 0, none⟩) ms.length cap), .val (.pointer (some ⟨D, 1, none⟩)), .val (.int .u64 H9), .val (.int .i64 j), .val (.pointer (some ⟨C, j, none⟩)), .val (.int .i64 Z), .val (.agg #[.int .u64 H9, .int .i64 Z]), .that (fun w' v => ∃ G, v = .slice (some ⟨G, 0, none⟩) 1 1 ∧ Sz ≤ G ∧ w'.cell? ⟨G, 0, none⟩ = some (.int .u64 H9) ∧ w'.cell? ⟨G, 1, none⟩ = some (.int .i64 Z)) ?_] (by kernel_rfl) Grown.refl Grown.trans (by decide) (by kernel_rfl) (by kernel_rfl) (by kernel_rfl) (by kernel_rfl) (by kernel_rfl) (by kernel_rfl) ?_
              · rintro x1 y1 v hg ⟨G, hv, hb, h0, h1⟩
                exact ⟨G, hv, hb, keep' hg h0, keep' hg h1⟩
              simp only [List.take_succ_cons, List.take_zero, relyAll, Act.put, List.setIfInBounds_toArray, List.set_cons_zero, List.set_cons_succ]
              refine ⟨?_, ?_, ?_, ?_, ?_, ?_, ?_, ?_, ?_⟩
              · intro w' hg _
                refine Or.inl ⟨rfl, ?_⟩
                go_simp
                exact ⟨Grown.refl _, rfl⟩
              · intro w' hg _
                refine Or.inl ⟨rfl, ?_⟩
                go_simp
                exact ⟨Grown.refl _, rfl⟩
              · intro w' hg _
                refine Or.inl ⟨rfl, ?_⟩
                have q1 := (d9.drew.grown hg).at0 1 rfl
                go_simp
                exact ⟨Grown.refl _, rfl⟩
              · intro w' hg _
                refine Or.inl ⟨rfl, ?_⟩
                go_simp
                exact ⟨Grown.refl _, rfl⟩
              · intro w' hg _
                refine Or.inl ⟨rfl, ?_⟩
                go_simp
                exact ⟨Grown.refl _, rfl⟩
              · intro w' hg _
                refine Or.inl ⟨rfl, ?_⟩
                have q1 := ((S9.grown ((Below.refl _ _).drew)).grown hg).c.cell (i := j) hj
                rw [hclj] at q1
                go_simp
                exact ⟨Grown.refl _, rfl⟩
              · intro w' hg _
                refine Or.inl ⟨rfl, ?_⟩
                go_simp
                exact ⟨Grown.refl _, rfl⟩
              · intro w' hg _
                refine Or.inl ⟨rfl, ?_⟩
                have hz : Sz ≤ w'.heap.size := by have := hg.size; have e : W.drew.heap.size = W.heap.size := rfl; omega
                go_simp
                exact ⟨grow_alloc (Below.refl _ _) _, _, rfl, hz, by simp, by simp⟩
              intro vG w8 hg hf
              obtain ⟨G, rfl, hGS, hG0, hG1⟩ := hf.1
              have S10 := (S9.grown ((Below.refl _ _).drew)).grown hg
              have hMs10 : M < w8.heap.size := Nat.lt_of_le_of_lt S10.pm S10.p.lt
              obtain ⟨b', cap', w9, hrun, hp9, o9', hb9⟩ := S10.p.app G H9 Z hG0 hG1 (by simp; omega) 45
              rw [List.length_map] at hrun
              have S11 := S10.more SA.out o9' hp9 hb9 (by omega)
              have hMs11 : M < w9.heap.size := Nat.lt_of_le_of_lt S11.pm S11.p.lt
              have hll : ms.map (fun o => (packH (o.x : Int) 1, (o.Z : Int))) ++ [(H9, (Z : Int))] = (ms ++ [o9]).map (fun o => (packH (o.x : Int) 1, (o.Z : Int))) := by
                rw [List.map_append, hH9, ← hZ9]
                rfl
              rw [hll] at S11
              have hln : ms.length + 1 = (ms ++ [o9]).length := by simp
              rw [hln] at hrun
              clear hf hg S9 d9 hSz hcell9 hGS hG0 hG1 hll hp9 o9' hb9 S10 hMs10 hln hH9 hZ9 hclj
              simp only [List.drop_succ_cons, List.drop_zero]
              refine wpList_ran rfl (.tmp 109) (.tmp 116) rfl rfl rfl hrun ?_
              go_wp2
              go_roundw
              case rel => exact ⟨r + 1, a, b', cap', s6, σ + 1, q', ow, _, cl, ms ++ [o9], by go_num, by simp, by go_num, by omega, by omega, by omega, S11, hMs11, J6⟩
              case measure => simp [intOf]; omega
            · have h67 : E9 = 6 ∨ E9 = 7 := by
                exact over_67 JJ.out hj HTH.out HT.out hE9
              rcases h67 with rfl | rfl
              · refine wp_region_rely_tail Grown 4 [.val (.int .i64 j), .val (.pointer (some ⟨A, j, none⟩)), .val (.pointer (some ⟨b, 0, none⟩)), .val (.agg #[.int .i64 4, .int .i64 n, .int .i64 6, .int .i64 20, .int .i64 100, .int .i64 600, .int .i64 3, .pointer (some ⟨L.p, 0, none⟩), .int .i64 0])] (by kernel_rfl) Grown.refl Grown.trans (by decide) (by kernel_rfl) (by kernel_rfl) (by kernel_rfl) (by kernel_rfl) (by kernel_rfl) (by kernel_rfl) ?_
                simp only [List.take_succ_cons, List.take_zero, relyAll, Act.put, List.setIfInBounds_toArray, List.set_cons_zero, List.set_cons_succ]
                refine ⟨?_, ?_, ?_, ?_, ?_⟩
                · intro w' hg _
                  refine Or.inl ⟨rfl, ?_⟩
                  go_simp
                  exact ⟨Grown.refl _, rfl⟩
                · intro w' hg _
                  refine Or.inl ⟨rfl, ?_⟩
                  go_simp
                  exact ⟨Grown.refl _, rfl⟩
                · intro w' hg _
                  refine Or.inl ⟨rfl, ?_⟩
                  have q1 := (SS.out.grown ((Below.refl _ _).drew)).grown hg
                  have qa := q1.a.cell (i := j) hj
                  rw [hθ] at qa
                  simp only [Wh.v] at qa
                  go_simp
                  exact ⟨Grown.refl _, rfl⟩
                · intro w' hg _
                  refine Or.inl ⟨rfl, ?_⟩
                  have vv := ((SS.out.grown ((Below.refl _ _).drew)).grown hg).f.v
                  have y0 := vv.c0
                  have y1 := vv.c1
                  have y2 := vv.c2
                  have y3 := vv.c3
                  have y4 := vv.c4
                  have y5 := vv.c5
                  have y6 := vv.c6
                  have y7 := vv.c7
                  have y8 := vv.c8
                  go_simp
                  exact ⟨Grown.refl _, rfl⟩
                intro w5 hg _
                have S5 := (SS.out.grown ((Below.refl _ _).drew)).grown hg
                have hMs5 : M < w5.heap.size := by have := hg.size; have e : (World.heap (World.drew wr)).size = wr.heap.size := rfl; omega
                clear hg
                go_wp2_with (first
                  | (go_at_call 17; refine (S5.step SA.out hj HTH.out (by omega) HGd.out HO.out hκ HKZ.out hz2 HT.out rfl).mono ?_; rintro e w6 ⟨rfl, s6, S6, gd6⟩; have qa6 := S6.a.cell (i := j) hj; rw [upd_same] at qa6; simp only [Wh.v] at qa6; have dn := (S6.th j hj b Z κ _ (upd_same _ _ _)).1.done)
                  | (go_at_call 18; refine dn.mono ?_; rintro e w7 ⟨rfl, b7⟩; have S8 := (S6.grown b7).grown (grow_alloc (Below.refl _ _) (.cells #[.int .i64 6, .int .u64 H9, .int .i64 0, .int .i64 st9] 36)); have d8 := At.new w7 36 [.int .i64 6, .int .u64 H9, .int .i64 0, .int .i64 st9]; have qa8 := S8.a.cell (i := j) hj; have qaf := S8.a.frozen; have hDA : w7.heap.size ≠ A := by { have := (S6.grown b7).a.lt; omega }; have d9 := d8.other hDA j (.pointer none); have dE := d9.at0 0 rfl))
                obtain ⟨-, J6⟩ := (JJ.out.step hj HTH.out HT.out gd6).2.1 6 H9 st9 rfl (by decide)
                have S9 := S8.drop SA.out (j := j)
                simp only [upd_twice] at S9
                try simp only [upd_twice] at J6
                have hMs9 : M < ((w7.alloc (.cells #[.int .i64 6, .int .u64 H9, .int .i64 0, .int .i64 st9] 36)).setCell ⟨A, j, none⟩ (.pointer none)).heap.size := Nat.lt_of_le_of_lt S9.pm S9.p.lt
                go_wp2
                go_roundw
                case rel => exact ⟨r + 1, a, pb, cap, s6, σ + 1, q', ow, _, cl, ms, by go_num, rfl, by go_num, by omega, by omega, by omega, S9, hMs9, J6⟩
                case measure => simp [intOf]; omega
              · refine wp_region_rely_tail Grown 4 [.val (.int .i64 j), .val (.pointer (some ⟨A, j, none⟩)), .val (.pointer (some ⟨b, 0, none⟩)), .val (.agg #[.int .i64 4, .int .i64 n, .int .i64 6, .int .i64 20, .int .i64 100, .int .i64 600, .int .i64 3, .pointer (some ⟨L.p, 0, none⟩), .int .i64 0])] (by kernel_rfl) Grown.refl Grown.trans (by decide) (by kernel_rfl) (by kernel_rfl) (by kernel_rfl) (by kernel_rfl) (by kernel_rfl) (by kernel_rfl) ?_
                simp only [List.take_succ_cons, List.take_zero, relyAll, Act.put, List.setIfInBounds_toArray, List.set_cons_zero, List.set_cons_succ]
                refine ⟨?_, ?_, ?_, ?_, ?_⟩
                · intro w' hg _
                  refine Or.inl ⟨rfl, ?_⟩
                  go_simp
                  exact ⟨Grown.refl _, rfl⟩
                · intro w' hg _
                  refine Or.inl ⟨rfl, ?_⟩
                  go_simp
                  exact ⟨Grown.refl _, rfl⟩
                · intro w' hg _
                  refine Or.inl ⟨rfl, ?_⟩
                  have q1 := (SS.out.grown ((Below.refl _ _).drew)).grown hg
                  have qa := q1.a.cell (i := j) hj
                  rw [hθ] at qa
                  simp only [Wh.v] at qa
                  go_simp
                  exact ⟨Grown.refl _, rfl⟩
                · intro w' hg _
                  refine Or.inl ⟨rfl, ?_⟩
                  have vv := ((SS.out.grown ((Below.refl _ _).drew)).grown hg).f.v
                  have y0 := vv.c0
                  have y1 := vv.c1
                  have y2 := vv.c2
                  have y3 := vv.c3
                  have y4 := vv.c4
                  have y5 := vv.c5
                  have y6 := vv.c6
                  have y7 := vv.c7
                  have y8 := vv.c8
                  go_simp
                  exact ⟨Grown.refl _, rfl⟩
                intro w5 hg _
                have S5 := (SS.out.grown ((Below.refl _ _).drew)).grown hg
                have hMs5 : M < w5.heap.size := by have := hg.size; have e : (World.heap (World.drew wr)).size = wr.heap.size := rfl; omega
                clear hg
                go_wp2_with (first
                  | (go_at_call 17; refine (S5.step SA.out hj HTH.out (by omega) HGd.out HO.out hκ HKZ.out hz2 HT.out rfl).mono ?_; rintro e w6 ⟨rfl, s6, S6, gd6⟩; have qa6 := S6.a.cell (i := j) hj; rw [upd_same] at qa6; simp only [Wh.v] at qa6; have dn := (S6.th j hj b Z κ _ (upd_same _ _ _)).1.done)
                  | (go_at_call 18; refine dn.mono ?_; rintro e w7 ⟨rfl, b7⟩; have S8 := (S6.grown b7).grown (grow_alloc (Below.refl _ _) (.cells #[.int .i64 7, .int .u64 H9, .int .i64 0, .int .i64 st9] 36)); have d8 := At.new w7 36 [.int .i64 7, .int .u64 H9, .int .i64 0, .int .i64 st9]; have qa8 := S8.a.cell (i := j) hj; have qaf := S8.a.frozen; have hDA : w7.heap.size ≠ A := by { have := (S6.grown b7).a.lt; omega }; have d9 := d8.other hDA j (.pointer none); have dE := d9.at0 0 rfl))
                obtain ⟨-, J6⟩ := (JJ.out.step hj HTH.out HT.out gd6).2.1 7 H9 st9 rfl (by decide)
                have S9 := S8.drop SA.out (j := j)
                simp only [upd_twice] at S9
                try simp only [upd_twice] at J6
                have hMs9 : M < ((w7.alloc (.cells #[.int .i64 7, .int .u64 H9, .int .i64 0, .int .i64 st9] 36)).setCell ⟨A, j, none⟩ (.pointer none)).heap.size := Nat.lt_of_le_of_lt S9.pm S9.p.lt
                go_wp2
                go_roundw
                case rel => exact ⟨r + 1, a, pb, cap, s6, σ + 1, q', ow, _, cl, ms, by go_num, rfl, by go_num, by omega, by omega, by omega, S9, hMs9, J6⟩
                case measure => simp [intOf]; omega
    · have HS : Hid (Three w wr L E A C M n s2 σ q θ cl pb cap (ms.map (fun o => (packH (o.x : Int) 1, (o.Z : Int))))) := S
      have HJ : Hid (Jam n q σ ow θ ms) := J
      clear S J
      by_cases hrB : (r : Int) < B2
      · have hr7' : ¬ (r : Int) < 700 := by omega
        go_wp2
        go_loopw [17] (fun iv wq => ∃ i : Nat, i ≤ ms.length ∧ iv = .int .i64 i ∧ Three w wq L E A C M n s2 σ q θ cl pb cap (ms.map (fun o => (packH (o.x : Int) 1, (o.Z : Int))))) (fun iv _ => ms.length - (intOf iv).toNat)
        case atStart => exact ⟨0, by omega, rfl, HS.out⟩
        case round =>
          clear HS
          obtain ⟨i, him, rfl, S⟩ := hrel
          by_cases hi : i < ms.length
          · have hi' : (i : Int) < (ms.length : Int) := by omega
            obtain ⟨o, hoi⟩ : ∃ o, ms[i]? = some o := ⟨_, List.getElem?_eq_getElem hi⟩
            have hmem : o ∈ ms := List.mem_of_getElem? hoi
            have hli : (ms.map (fun o => (packH (o.x : Int) 1, (o.Z : Int))))[i]? = some (packH (o.x : Int) 1, (o.Z : Int)) := by rw [List.getElem?_map, hoi]; rfl
            obtain ⟨hg0, hg1⟩ := flat_get hli
            obtain ⟨u, hlv⟩ := HJ.out.lives S.f.tw hmem
            obtain ⟨Hi, hHi⟩ : ∃ Hi, packH (o.x : Int) 1 = Hi := ⟨_, rfl⟩
            have snd : Hid (∀ W', Below wr.heap.size wr W' → Calls Try.prog 13 #[.agg #[.int .i64 4, .int .i64 n, .int .i64 6, .int .i64 20, .int .i64 100, .int .i64 600, .int .i64 3, .pointer (some ⟨L.p, 0, none⟩), .int .i64 0], .int .u64 Hi, .int .i64 o.Z, .bool false] W' fun e w' => e = .returned (.bool true) ∧ Below W'.heap.size W' w') := fun W' hW => by
              rw [← hHi]
              exact sound_any (S.f.mm.below hW) HG.out (by omega) S.f.tw.len (by omega) hlv
            rw [hHi] at hg0
            have HMEM : Hid (ms[i]? = some o) := hoi
            have HHI : Hid (packH (o.x : Int) 1 = Hi) := hHi
            clear hlv hli hoi hHi
            go_wp2
            refine wp_region_rely_tail Grown 11 [.val (.agg #[.int .i64 4, .int .i64 n, .int .i64 6, .int .i64 20, .int .i64 100, .int .i64 600, .int .i64 3, .pointer (some ⟨L.p, 0, none⟩), .int .i64 0]), .val (.slice (some ⟨pb, 0, none⟩) ms.length cap), .val (.int .i64 i), .val (.pointer (some ⟨pb, 2 * i, none⟩)), .val (.pointer (some ⟨pb, 2 * i, none⟩)), .val (.int .u64 Hi), .val (.slice (some ⟨pb, 0, none⟩) ms.length cap), .val (.int .i64 i), .val (.pointer (some ⟨pb, 2 * i, none⟩)), .val (.pointer (some ⟨pb, 2 * i + 1, none⟩)), .val (.int .i64 o.Z)] (by kernel_rfl) Grown.refl Grown.trans (by decide) (by kernel_rfl) (by kernel_rfl) (by kernel_rfl) (by kernel_rfl) (by kernel_rfl) (by kernel_rfl) ?_
            simp only [List.take_succ_cons, List.take_zero, relyAll, Act.put, List.setIfInBounds_toArray, List.set_cons_zero, List.set_cons_succ]
            refine ⟨?_, ?_, ?_, ?_, ?_, ?_, ?_, ?_, ?_, ?_, ?_, ?_⟩
            · intro w' hg _
              refine Or.inl ⟨rfl, ?_⟩
              have vv := ((S.grown ((Below.refl _ _).drew)).grown hg).f.v
              have y0 := vv.c0
              have y1 := vv.c1
              have y2 := vv.c2
              have y3 := vv.c3
              have y4 := vv.c4
              have y5 := vv.c5
              have y6 := vv.c6
              have y7 := vv.c7
              have y8 := vv.c8
              go_simp
              exact ⟨Grown.refl _, rfl⟩
            · intro w' hg _
              refine Or.inl ⟨rfl, ?_⟩
              go_simp
              exact ⟨Grown.refl _, rfl⟩
            · intro w' hg _
              refine Or.inl ⟨rfl, ?_⟩
              go_simp
              exact ⟨Grown.refl _, rfl⟩
            · intro w' hg _
              refine Or.inl ⟨rfl, ?_⟩
              go_simp
              exact ⟨Grown.refl _, congrArg (fun x => Value.pointer (some ⟨pb, x, none⟩)) (by omega)⟩
            · intro w' hg _
              refine Or.inl ⟨rfl, ?_⟩
              go_simp
              exact ⟨Grown.refl _, rfl⟩
            · intro w' hg _
              refine Or.inl ⟨rfl, ?_⟩
              have q1 := ((S.grown ((Below.refl _ _).drew)).grown hg).p.cell hg0
              go_simp
              exact ⟨Grown.refl _, rfl⟩
            · intro w' hg _
              refine Or.inl ⟨rfl, ?_⟩
              go_simp
              exact ⟨Grown.refl _, rfl⟩
            · intro w' hg _
              refine Or.inl ⟨rfl, ?_⟩
              go_simp
              exact ⟨Grown.refl _, rfl⟩
            · intro w' hg _
              refine Or.inl ⟨rfl, ?_⟩
              go_simp
              exact ⟨Grown.refl _, congrArg (fun x => Value.pointer (some ⟨pb, x, none⟩)) (by omega)⟩
            · intro w' hg _
              refine Or.inl ⟨rfl, ?_⟩
              go_simp
              exact ⟨Grown.refl _, rfl⟩
            · intro w' hg _
              refine Or.inl ⟨rfl, ?_⟩
              have q1 := ((S.grown ((Below.refl _ _).drew)).grown hg).p.cell hg1
              go_simp
              exact ⟨Grown.refl _, rfl⟩
            intro w5 hg _
            have hg' : Below wr.heap.size wr w5 := grow ((Below.refl _ _).drew) hg
            go_wp2_with (go_at_call 13; refine (snd.out _ hg').mono ?_; rintro e w6 ⟨rfl, b6⟩)
            have S6 : Hid (Three w w6 L E A C M n s2 σ q θ cl pb cap (ms.map (fun o => (packH (o.x : Int) 1, (o.Z : Int))))) := (S.grown hg').grown b6
            clear S snd hg hg' b6
            go_loopw [18] (fun kv wq => ∃ k : Nat, k ≤ i ∧ kv = .int .i64 k ∧ Three w wq L E A C M n s2 σ q θ cl pb cap (ms.map (fun o => (packH (o.x : Int) 1, (o.Z : Int))))) (fun kv _ => i - (intOf kv).toNat)
            case atStart => exact ⟨0, by omega, rfl, S6.out⟩
            case round =>
              clear S6
              obtain ⟨k, hki, rfl, S⟩ := hrel
              by_cases hk : k < i
              · have hk' : (k : Int) < (i : Int) := by omega
                have hkm : (k : Int) < (ms.length : Int) := by omega
                obtain ⟨o', hok⟩ : ∃ o', ms[k]? = some o' := ⟨_, List.getElem?_eq_getElem (by omega)⟩
                have hlk : (ms.map (fun o => (packH (o.x : Int) 1, (o.Z : Int))))[k]? = some (packH (o'.x : Int) 1, (o'.Z : Int)) := by rw [List.getElem?_map, hok]; rfl
                have hk0 := (flat_get hlk).1
                obtain ⟨Hk, hHk⟩ : ∃ Hk, packH (o'.x : Int) 1 = Hk := ⟨_, rfl⟩
                have hne : (Hk == Hi) = false := by
                  have h1 := (List.pairwise_iff_getElem.1 HJ.out.pw) k i (by omega) hi hk
                  have e1 : ms[k] = o' := by have := List.getElem?_eq_getElem (l := ms) (i := k) (by omega); rw [hok] at this; exact (Option.some.inj this).symm
                  have e2 : ms[i] = o := by have := List.getElem?_eq_getElem (l := ms) (i := i) hi; rw [HMEM.out] at this; exact (Option.some.inj this).symm
                  rw [e1, e2] at h1
                  have l1 := (HJ.out.fine o' (List.mem_of_getElem? hok)).lt
                  have l2 := (HJ.out.fine o hmem).lt
                  have p1 := packH_is o'.x 1 (by omega) (by decide)
                  have p2 := packH_is o.x 1 (by omega) (by decide)
                  rw [← hHk, ← HHI.out]
                  have : ¬ packH (o'.x : Int) 1 = packH (o.x : Int) 1 := by
                    intro e
                    rw [show packH (o'.x : Int) 1 = (o'.x : Int) + ((1 : Nat) : Int) * 65536 from p1, show packH (o.x : Int) 1 = (o.x : Int) + ((1 : Nat) : Int) * 65536 from p2] at e
                    omega
                  simpa using this
                rw [hHk] at hk0
                clear hHk hlk hok
                have g0 : ∀ N : Later wr, N.now.cell? ⟨pb, k * 2, none⟩ = some (.int .u64 Hk) := fun N => by rw [Nat.mul_comm]; exact (S.grown N.below).p.cell hk0
                have g1 : ∀ N : Later wr, N.now.cell? ⟨pb, i * 2, none⟩ = some (.int .u64 Hi) := fun N => by rw [Nat.mul_comm]; exact (S.grown N.below).p.cell hg0
                go_wp2
                haveI := Later.exists wr
                refine wp_region_later (by kernel_rfl) (by kernel_rfl) ?_
                repeat (go_big_quiet_step (fail))
                refine wpQuiet_nil ?_
                rintro _ ⟨nq, rfl⟩
                clear g0 g1
                have S7 := S.grown nq.below
                go_wp2
                go_roundw
                case rel => exact ⟨k + 1, by omega, by go_num, S7⟩
                case measure => simp [intOf]; omega
              · have hk' : ¬ (k : Int) < (i : Int) := by omega
                go_wp2
                go_roundw
                case rel => exact ⟨i + 1, by omega, by go_num, S⟩
                case measure => simp [intOf]; omega
          · have hi' : ¬ (i : Int) < (ms.length : Int) := by omega
            have hle : (ms.length : Int) ≤ (n : Int) := by omega
            have b9 := S.f.b
            clear S
            go_wp2
            go_ret
            exact ⟨rfl, b9⟩
      · skip
        go_wp2
        go_loopw [17] (fun iv wq => ∃ i : Nat, i ≤ ms.length ∧ iv = .int .i64 i ∧ Three w wq L E A C M n s2 σ q θ cl pb cap (ms.map (fun o => (packH (o.x : Int) 1, (o.Z : Int))))) (fun iv _ => ms.length - (intOf iv).toNat)
        case atStart => exact ⟨0, by omega, rfl, HS.out⟩
        case round =>
          clear HS
          obtain ⟨i, him, rfl, S⟩ := hrel
          by_cases hi : i < ms.length
          · have hi' : (i : Int) < (ms.length : Int) := by omega
            obtain ⟨o, hoi⟩ : ∃ o, ms[i]? = some o := ⟨_, List.getElem?_eq_getElem hi⟩
            have hmem : o ∈ ms := List.mem_of_getElem? hoi
            have hli : (ms.map (fun o => (packH (o.x : Int) 1, (o.Z : Int))))[i]? = some (packH (o.x : Int) 1, (o.Z : Int)) := by rw [List.getElem?_map, hoi]; rfl
            obtain ⟨hg0, hg1⟩ := flat_get hli
            obtain ⟨u, hlv⟩ := HJ.out.lives S.f.tw hmem
            obtain ⟨Hi, hHi⟩ : ∃ Hi, packH (o.x : Int) 1 = Hi := ⟨_, rfl⟩
            have snd : Hid (∀ W', Below wr.heap.size wr W' → Calls Try.prog 13 #[.agg #[.int .i64 4, .int .i64 n, .int .i64 6, .int .i64 20, .int .i64 100, .int .i64 600, .int .i64 3, .pointer (some ⟨L.p, 0, none⟩), .int .i64 0], .int .u64 Hi, .int .i64 o.Z, .bool false] W' fun e w' => e = .returned (.bool true) ∧ Below W'.heap.size W' w') := fun W' hW => by
              rw [← hHi]
              exact sound_any (S.f.mm.below hW) HG.out (by omega) S.f.tw.len (by omega) hlv
            rw [hHi] at hg0
            have HMEM : Hid (ms[i]? = some o) := hoi
            have HHI : Hid (packH (o.x : Int) 1 = Hi) := hHi
            clear hlv hli hoi hHi
            go_wp2
            refine wp_region_rely_tail Grown 11 [.val (.agg #[.int .i64 4, .int .i64 n, .int .i64 6, .int .i64 20, .int .i64 100, .int .i64 600, .int .i64 3, .pointer (some ⟨L.p, 0, none⟩), .int .i64 0]), .val (.slice (some ⟨pb, 0, none⟩) ms.length cap), .val (.int .i64 i), .val (.pointer (some ⟨pb, 2 * i, none⟩)), .val (.pointer (some ⟨pb, 2 * i, none⟩)), .val (.int .u64 Hi), .val (.slice (some ⟨pb, 0, none⟩) ms.length cap), .val (.int .i64 i), .val (.pointer (some ⟨pb, 2 * i, none⟩)), .val (.pointer (some ⟨pb, 2 * i + 1, none⟩)), .val (.int .i64 o.Z)] (by kernel_rfl) Grown.refl Grown.trans (by decide) (by kernel_rfl) (by kernel_rfl) (by kernel_rfl) (by kernel_rfl) (by kernel_rfl) (by kernel_rfl) ?_
            simp only [List.take_succ_cons, List.take_zero, relyAll, Act.put, List.setIfInBounds_toArray, List.set_cons_zero, List.set_cons_succ]
            refine ⟨?_, ?_, ?_, ?_, ?_, ?_, ?_, ?_, ?_, ?_, ?_, ?_⟩
            · intro w' hg _
              refine Or.inl ⟨rfl, ?_⟩
              have vv := ((S.grown ((Below.refl _ _).drew)).grown hg).f.v
              have y0 := vv.c0
              have y1 := vv.c1
              have y2 := vv.c2
              have y3 := vv.c3
              have y4 := vv.c4
              have y5 := vv.c5
              have y6 := vv.c6
              have y7 := vv.c7
              have y8 := vv.c8
              go_simp
              exact ⟨Grown.refl _, rfl⟩
            · intro w' hg _
              refine Or.inl ⟨rfl, ?_⟩
              go_simp
              exact ⟨Grown.refl _, rfl⟩
            · intro w' hg _
              refine Or.inl ⟨rfl, ?_⟩
              go_simp
              exact ⟨Grown.refl _, rfl⟩
            · intro w' hg _
              refine Or.inl ⟨rfl, ?_⟩
              go_simp
              exact ⟨Grown.refl _, congrArg (fun x => Value.pointer (some ⟨pb, x, none⟩)) (by omega)⟩
            · intro w' hg _
              refine Or.inl ⟨rfl, ?_⟩
              go_simp
              exact ⟨Grown.refl _, rfl⟩
            · intro w' hg _
              refine Or.inl ⟨rfl, ?_⟩
              have q1 := ((S.grown ((Below.refl _ _).drew)).grown hg).p.cell hg0
              go_simp
              exact ⟨Grown.refl _, rfl⟩
            · intro w' hg _
              refine Or.inl ⟨rfl, ?_⟩
              go_simp
              exact ⟨Grown.refl _, rfl⟩
            · intro w' hg _
              refine Or.inl ⟨rfl, ?_⟩
              go_simp
              exact ⟨Grown.refl _, rfl⟩
            · intro w' hg _
              refine Or.inl ⟨rfl, ?_⟩
              go_simp
              exact ⟨Grown.refl _, congrArg (fun x => Value.pointer (some ⟨pb, x, none⟩)) (by omega)⟩
            · intro w' hg _
              refine Or.inl ⟨rfl, ?_⟩
              go_simp
              exact ⟨Grown.refl _, rfl⟩
            · intro w' hg _
              refine Or.inl ⟨rfl, ?_⟩
              have q1 := ((S.grown ((Below.refl _ _).drew)).grown hg).p.cell hg1
              go_simp
              exact ⟨Grown.refl _, rfl⟩
            intro w5 hg _
            have hg' : Below wr.heap.size wr w5 := grow ((Below.refl _ _).drew) hg
            go_wp2_with (go_at_call 13; refine (snd.out _ hg').mono ?_; rintro e w6 ⟨rfl, b6⟩)
            have S6 : Hid (Three w w6 L E A C M n s2 σ q θ cl pb cap (ms.map (fun o => (packH (o.x : Int) 1, (o.Z : Int))))) := (S.grown hg').grown b6
            clear S snd hg hg' b6
            go_loopw [18] (fun kv wq => ∃ k : Nat, k ≤ i ∧ kv = .int .i64 k ∧ Three w wq L E A C M n s2 σ q θ cl pb cap (ms.map (fun o => (packH (o.x : Int) 1, (o.Z : Int))))) (fun kv _ => i - (intOf kv).toNat)
            case atStart => exact ⟨0, by omega, rfl, S6.out⟩
            case round =>
              clear S6
              obtain ⟨k, hki, rfl, S⟩ := hrel
              by_cases hk : k < i
              · have hk' : (k : Int) < (i : Int) := by omega
                have hkm : (k : Int) < (ms.length : Int) := by omega
                obtain ⟨o', hok⟩ : ∃ o', ms[k]? = some o' := ⟨_, List.getElem?_eq_getElem (by omega)⟩
                have hlk : (ms.map (fun o => (packH (o.x : Int) 1, (o.Z : Int))))[k]? = some (packH (o'.x : Int) 1, (o'.Z : Int)) := by rw [List.getElem?_map, hok]; rfl
                have hk0 := (flat_get hlk).1
                obtain ⟨Hk, hHk⟩ : ∃ Hk, packH (o'.x : Int) 1 = Hk := ⟨_, rfl⟩
                have hne : (Hk == Hi) = false := by
                  have h1 := (List.pairwise_iff_getElem.1 HJ.out.pw) k i (by omega) hi hk
                  have e1 : ms[k] = o' := by have := List.getElem?_eq_getElem (l := ms) (i := k) (by omega); rw [hok] at this; exact (Option.some.inj this).symm
                  have e2 : ms[i] = o := by have := List.getElem?_eq_getElem (l := ms) (i := i) hi; rw [HMEM.out] at this; exact (Option.some.inj this).symm
                  rw [e1, e2] at h1
                  have l1 := (HJ.out.fine o' (List.mem_of_getElem? hok)).lt
                  have l2 := (HJ.out.fine o hmem).lt
                  have p1 := packH_is o'.x 1 (by omega) (by decide)
                  have p2 := packH_is o.x 1 (by omega) (by decide)
                  rw [← hHk, ← HHI.out]
                  have : ¬ packH (o'.x : Int) 1 = packH (o.x : Int) 1 := by
                    intro e
                    rw [show packH (o'.x : Int) 1 = (o'.x : Int) + ((1 : Nat) : Int) * 65536 from p1, show packH (o.x : Int) 1 = (o.x : Int) + ((1 : Nat) : Int) * 65536 from p2] at e
                    omega
                  simpa using this
                rw [hHk] at hk0
                clear hHk hlk hok
                have g0 : ∀ N : Later wr, N.now.cell? ⟨pb, k * 2, none⟩ = some (.int .u64 Hk) := fun N => by rw [Nat.mul_comm]; exact (S.grown N.below).p.cell hk0
                have g1 : ∀ N : Later wr, N.now.cell? ⟨pb, i * 2, none⟩ = some (.int .u64 Hi) := fun N => by rw [Nat.mul_comm]; exact (S.grown N.below).p.cell hg0
                go_wp2
                haveI := Later.exists wr
                refine wp_region_later (by kernel_rfl) (by kernel_rfl) ?_
                repeat (go_big_quiet_step (fail))
                refine wpQuiet_nil ?_
                rintro _ ⟨nq, rfl⟩
                clear g0 g1
                have S7 := S.grown nq.below
                go_wp2
                go_roundw
                case rel => exact ⟨k + 1, by omega, by go_num, S7⟩
                case measure => simp [intOf]; omega
              · have hk' : ¬ (k : Int) < (i : Int) := by omega
                go_wp2
                go_roundw
                case rel => exact ⟨i + 1, by omega, by go_num, S⟩
                case measure => simp [intOf]; omega
          · have hi' : ¬ (i : Int) < (ms.length : Int) := by omega
            have hle : (ms.length : Int) ≤ (n : Int) := by omega
            have b9 := S.f.b
            clear S
            go_wp2
            go_ret
            exact ⟨rfl, b9⟩

end Go.Proofs.Ytemembcefplgcaa
