/- At the end all slots are free, each once (the statements' own look): it answers true. -/
import Derived.Test.YtfedcddnjollmaaSlotPick
namespace Go.Proofs.Ytfedcddnjollmaa
open Go.RowKit

/-- how many steps one who gives still takes, alone -/
def Gv.rank (c : Nat) : Gv → Nat
  | .idle => 3
  | .saw _ c0 => if c0 = c then 2 else 5
  | .lnk _ c0 => if c0 = c then 1 else 4
  | .over => 0

def Th.rank (c : Nat) : Th → Nat
  | .give _ _ γ => γ.rank c
  | _ => 0

theorem Gv.rank_le (c : Nat) (γ : Gv) : γ.rank c ≤ 5 := by
  cases γ <;> simp [Gv.rank] <;> split <;> omega

theorem Th.rank_le (c : Nat) (t : Th) : t.rank c ≤ 5 := by
  cases t with
  | give b x γ => exact Gv.rank_le c γ
  | take => exact Nat.zero_le _
  | gone => exact Nat.zero_le _

theorem GvStep.rank {n c x : Nat} {lk lk' : Nat → Nat} {F : List Nat} {γ : Gv} {c' : Nat} {F' : List Nat} {γ' : Gv} (h : GvStep n c x lk F γ c' lk' F' γ') (ho : γ.ends c = false) : γ'.rank c' + 1 = γ.rank c := by
  cases h with
  | load => simp [Gv.rank]
  | lay q c0 => simp only [Gv.rank]; split <;> rfl
  | gave => simp [Gv.ends] at ho
  | vain q c0 hc => simp only [Gv.rank]; rw [if_neg (by omega)]

theorem Gv.rank_pos {c : Nat} {γ : Gv} (h : γ.done = false) : 1 ≤ γ.rank c := by
  cases γ with
  | idle => simp [Gv.rank]
  | saw => simp only [Gv.rank]; split <;> omega
  | lnk => simp only [Gv.rank]; split <;> omega
  | over => cases h

theorem AllAt.nil1 {w : World} {bA : Nat} {θ : Nat → Th} (h : AllAt w bA θ) {K b x : Nat} {γ : Gv} (hK : K < 3) (hθ : θ K = .give b x γ) : AllAt (w.setCell ⟨bA, K * 3 + 1, none⟩ (.pointer none)) bA (upd θ K (.gone b x)) := by
  obtain ⟨c, k, k2⟩ := h
  refine ⟨_, blk_setCell _ _ _ _ _ _ k, fun j hj => ?_⟩
  have hk := k2 K hK
  have l1 := (Array.getElem?_eq_some_iff.1 hk.2.1).1
  by_cases e : j = K
  · subst e
    rw [upd_same]
    rw [hθ] at hk
    refine ⟨?_, ?_, ?_⟩
    · rw [Array.getElem?_setIfInBounds_ne (by omega)]; exact hk.1
    · rw [Array.getElem?_setIfInBounds_self_of_lt l1]; rfl
    · rw [Array.getElem?_setIfInBounds_ne (by omega)]; exact hk.2.2
  · rw [upd_other _ _ _ _ e]
    have := k2 j hj
    refine ⟨?_, ?_, ?_⟩
    · rw [Array.getElem?_setIfInBounds_ne (by omega)]; exact this.1
    · rw [Array.getElem?_setIfInBounds_ne (by omega)]; exact this.2.1
    · rw [Array.getElem?_setIfInBounds_ne (by omega)]; exact this.2.2

section
variable {w0 w : World} {L : Loc} {bE bA n σ c : Nat} {s : Mm} {lk : Nat → Nat} {F : List Nat} {θ : Nat → Th}

theorem CrewAt.gone (h : CrewAt w0 w L bE bA n s σ c lk F θ) (p : CrewApart w0 L bE bA) {K b x : Nat} {γ : Gv} (hK : K < 3) (hθ : θ K = .give b x γ) : CrewAt w0 (w.setCell ⟨bA, K * 3 + 1, none⟩ (.pointer none)) L bE bA n s σ c lk F (upd θ K (.gone b x)) := by
  have hb : ∀ j, (upd θ K (.gone b x) j).b = (θ j).b := fun j => by
    by_cases e : j = K
    · subst e; rw [upd_same, hθ]; rfl
    · rw [upd_other _ _ _ _ e]
  have sz : w.heap.size ≤ (w.setCell ⟨bA, K * 3 + 1, none⟩ (.pointer none)).heap.size := by rw [Go.Deep.nblk_setCell]; exact Nat.le_refl _
  refine ⟨h.f.setIn p.b0 p.e p.l _ _, h.a.nil1 hK hθ, fun j hj => ?_, fun j hj => ?_, fun j hj => ?_, fun j hj => ?_, fun j hj => ?_, fun i j hi hj hij => ?_⟩
  · by_cases e : j = K
    · subst e
      rw [upd_same]
      have := Th.at_lt (h.th j hj)
      rw [hθ] at this
      exact Nat.lt_of_lt_of_le this sz
    · rw [upd_other _ _ _ _ e]
      exact Th.at_of (h.th j hj) (Go.Deep.blk_setCell_other _ _ _ _ (by simpa using h.aa j hj)) sz
  · rw [hb j]; exact h.ae j hj
  · rw [hb j]; exact h.aa j hj
  · rw [hb j]; exact h.al j hj
  · rw [hb j]; exact h.a0 j hj
  · rw [hb i, hb j]; exact h.dif i j hi hj hij

/-- the nine cells of three -/
def allV (θ : Nat → Th) : Array Value := #[(θ 0).v0, (θ 0).v1, .int .i64 (θ 0).have, (θ 1).v0, (θ 1).v1, .int .i64 (θ 1).have, (θ 2).v0, (θ 2).v1, .int .i64 (θ 2).have]

/-- the same three, in a copy of the array, and a copy of the arena's numbers -/
theorem CrewAt.moved (h : CrewAt w0 w L bE bA n s σ c lk F θ) (p : CrewApart w0 L bE bA) :
    CrewAt w0 ((w.alloc (.cells #[.int .i64 4, .int .i64 n, .int .i64 1, .int .i64 20, .int .i64 100, .int .i64 600, .int .i64 3, .pointer (some ⟨L.p, 0, none⟩), .int .i64 0] 27)).alloc (.cells (allV θ) 40)) L w.heap.size (w.heap.size + 1) n s σ c lk F θ ∧ CrewApart w0 L w.heap.size (w.heap.size + 1) := by
  have hs := h.f.b.size
  have hL : ∀ k, L.has k → k < w.heap.size := fun k hk => h.f.m.lt k hk
  have hT : ∀ j, j < 3 → (θ j).b < w.heap.size := fun j hj => Th.at_lt (h.th j hj)
  refine ⟨⟨⟨(h.f.m.alloc _).alloc _, h.f.p, BoxV.newB _, grow_alloc (grow_alloc h.f.b _) _⟩, ?_, fun j hj => ?_, fun j hj => ?_, fun j hj => ?_, h.al, h.a0, h.dif⟩, ⟨⟨p.f.l0, fun hh => by have := hL _ hh; omega, hs⟩, fun hh => by have := hL _ hh; omega, by omega, by omega⟩⟩
  · refine ⟨allV θ, by rw [← Go.Deep.nblk_alloc]; exact Go.Deep.blk_alloc_new _ _, fun j hj => ?_⟩
    have : j = 0 ∨ j = 1 ∨ j = 2 := by omega
    rcases this with rfl | rfl | rfl <;> exact ⟨rfl, rfl, rfl⟩
  · refine Th.at_of (h.th j hj) ?_ (by rw [Go.Deep.nblk_alloc, Go.Deep.nblk_alloc]; omega)
    rw [Go.Deep.blk_alloc_lt _ _ _ (by rw [Go.Deep.nblk_alloc]; have := hT j hj; omega), Go.Deep.blk_alloc_lt _ _ _ (hT j hj)]
  · have := hT j hj; omega
  · have := hT j hj; omega

end

theorem Try.infoB4 : (Try.prog.info? 4).map (fun i => (i.zero, i.size, i.bytes)) = some (some (.bool false), 1, 1) := by kernel_rfl

theorem give_or (t : Th) : (∃ b x γ, t = .give b x γ) ∨ (t.v1 = .pointer none ∧ t.g = 0) := by
  cases t with
  | give b x γ => exact .inl ⟨b, x, γ, rfl⟩
  | take => exact .inr ⟨rfl, rfl⟩
  | gone => exact .inr ⟨rfl, rfl⟩

/-- the three, while the picked one does a step, which is not its last -/
def phOn (w0 : World) (L : Loc) (bE bA n σ : Nat) (s : Mm) (c : Nat) (lk : Nat → Nat) (F : List Nat) (θ : Nat → Th) (K b x : Nat) (γ : Gv) : Nat → World → Prop
  | 0, w => CrewAt w0 w L bE bA n s σ c lk F θ
  | _, w => ∃ s' c' lk' F' γ', GvStep n c x lk F γ c' lk' F' γ' ∧ Crew n c' lk' F' (upd θ K (.give b x γ')) ∧ CrewAt w0 w L bE bA n s' (σ + 1) c' lk' F' (upd θ K (.give b x γ'))

/-- .. which is its last -/
def phDone (w0 : World) (L : Loc) (bE bA n σ : Nat) (s : Mm) (c : Nat) (lk : Nat → Nat) (F : List Nat) (θ : Nat → Th) (K b x : Nat) : Nat → World → Prop
  | 0, w => CrewAt w0 w L bE bA n s σ c lk F θ
  | _, w => ∃ s' c' lk' F' γ', (∀ t : Th, t.ok n c' lk' F' → t.g = 0 → (∀ y, ¬ t.has y) → Crew n c' lk' F' (upd θ K t)) ∧ CrewAt w0 w L bE bA n s' (σ + 1) c' lk' F' (upd θ K (.give b x γ'))

set_option maxRecDepth 20000 in
set_option maxHeartbeats 4000000 in
theorem free_any {w0 w : World} {L : Loc} {bE bA n σ c : Nat} {s : Mm} {lk : Nat → Nat} {F : List Nat} {θ : Nat → Th} (h : CrewAt w0 w L bE bA n s σ c lk F θ) (p : CrewApart w0 L bE bA) (hc : Crew n c lk F θ) (hσ : σ ≤ 10000) (hn : n ≤ 16) :
    Calls Try.prog 16 #[.agg #[.int .i64 4, .int .i64 n, .int .i64 1, .int .i64 20, .int .i64 100, .int .i64 600, .int .i64 3, .pointer (some ⟨L.p, 0, none⟩), .int .i64 0], .int .i64 n, .agg (allV θ)] w fun e w' => e = .returned (.bool true) ∧ Below w0.heap.size w0 w' := by
  obtain ⟨ca, cp⟩ := h.moved p
  have CA : Hid (CrewAt w0 ((w.alloc (.cells #[.int .i64 4, .int .i64 n, .int .i64 1, .int .i64 20, .int .i64 100, .int .i64 600, .int .i64 3, .pointer (some ⟨L.p, 0, none⟩), .int .i64 0] 27)).alloc (.cells (allV θ) 40)) L w.heap.size (w.heap.size + 1) n s σ c lk F θ) := ca
  have CP : Hid (CrewApart w0 L w.heap.size (w.heap.size + 1)) := cp
  have HC : Hid (Crew n c lk F θ) := hc
  clear ca cp hc h p
  have hmk := run_make_row' (P := Try.prog) 22 4 (.bool false) 1 Try.underlying22 Try.infoB4 rfl .i64 .i64 n (by omega) (by omega)
  unfold allV at CA ⊢
  go_enter Try.func16, Try.ntmps16
  go_wp2
  go_loopw [7] (fun i wr => ∃ (K : Nat) (s : Mm) (σ1 c : Nat) (lk : Nat → Nat) (F : List Nat) (θ : Nat → Th), i = .int .i64 K ∧ K ≤ 3 ∧ σ1 ≤ σ + 6 * K ∧ Crew n c lk F θ ∧ CrewAt w0 wr L w.heap.size (w.heap.size + 1) n s σ1 c lk F θ ∧ ∀ j, j < K → (θ j).g = 0) (fun i _ => 3 - (intOf i).toNat)
  case atStart => exact ⟨0, s, σ, c, lk, F, θ, rfl, by omega, by omega, HC.out, CA.out, fun j hj => by omega⟩
  case round =>
    clear CA HC
    obtain ⟨K, s, σ1, c, lk, F, θ, rfl, hK3, hσ1, C0, A0, G0⟩ := hrel
    by_cases hK : K < 3
    · have hK' : (K : Int) < 3 := by omega
      have HK : Hid (K < 3) := hK
      have A1 : Hid (CrewAt w0 wr L w.heap.size (w.heap.size + 1) n s σ1 c lk F θ ∧ Crew n c lk F θ ∧ ∀ j, j < K → (θ j).g = 0) := ⟨A0, C0, G0⟩
      clear A0 C0 G0 hK hK3
      go_wp2
      go_loopw [8] (fun i wq => ∃ (j : Nat) (s : Mm) (σ c : Nat) (lk : Nat → Nat) (F : List Nat) (θ : Nat → Th), i = .int .i64 j ∧ j + (θ K).rank c ≤ 5 ∧ σ ≤ σ1 + j ∧ Crew n c lk F θ ∧ CrewAt w0 wq L w.heap.size (w.heap.size + 1) n s σ c lk F θ ∧ ∀ j, j < K → (θ j).g = 0) (fun i _ => 6 - (intOf i).toNat)
      case atStart => exact ⟨0, s, σ1, c, lk, F, θ, rfl, by have := Th.rank_le c (θ K); omega, by omega, A1.out.2.1, A1.out.1, A1.out.2.2⟩
      case round =>
        clear A1
        obtain ⟨j, s, σ, c, lk, F, θ, rfl, hj5, hσ2, C, a, G⟩ := hrel
        have hj40 : (j : Int) < 40 := by omega
        rcases give_or (θ K) with ⟨b, x, γ, hθ0⟩ | ⟨hv1, hg0⟩
        · have hθ : Hid (θ K = .give b x γ) := hθ0
          have hc1 : wr.cell? ⟨w.heap.size + 1, K * 3 + 1, none⟩ = some (.pointer (some ⟨b, 0, none⟩)) := by
            have := a.a.c1 HK.out
            rw [hθ0] at this
            exact this
          have hbE : Hid (w.heap.size ≠ b) := by have := a.ae K HK.out; rw [hθ0] at this; exact this.symm
          have hbA : Hid (w.heap.size + 1 ≠ b) := by have := a.aa K HK.out; rw [hθ0] at this; exact this.symm
          have hrk : Hid (j + γ.rank c ≤ 5) := by rw [hθ0] at hj5; exact hj5
          have C' : Hid (Crew n c lk F θ) := C
          have G' : Hid (∀ j, j < K → (θ j).g = 0) := G
          have hj4 : j ≤ 4 := by
            have hk := C.ok K HK.out
            rw [hθ0] at hk hj5
            have := Gv.rank_pos (c := c) hk.2.2.2
            have : j + γ.rank c ≤ 5 := hj5
            omega
          have C := C'
          clear G hθ0 hj5
          clear C'
          by_cases he : γ.ends c = true
          · have hends : Hid (γ.ends c = true) := he
            clear he
            go_wp2
            refine wp_region_phase (Only (L.and b)) (fun x y => y = x) (phDone w0 L w.heap.size (w.heap.size + 1) n σ s c lk F θ K b x) [5] [.val (.int .i64 K), .val (.pointer (some ⟨w.heap.size + 1, K * 3, none⟩)), .val (.pointer (some ⟨w.heap.size + 1, K * 3 + 1, none⟩)), .val (.pointer (some ⟨b, 0, none⟩)), .val (.agg #[.int .i64 4, .int .i64 n, .int .i64 1, .int .i64 20, .int .i64 100, .int .i64 600, .int .i64 3, .pointer (some ⟨L.p, 0, none⟩), .int .i64 0]), .val (.bool true)]
              (by kernel_rfl) (Only.refl _) (fun _ _ _ h k => h.trans k) (fun x y h => by subst h; exact Only.refl _ _) (fun x y p h k => by subst h; exact k) (a.grown ((Below.refl _ _).drew)) (by kernel_rfl) (by kernel_rfl) (by kernel_rfl) (by kernel_rfl) (by kernel_rfl) ?_
            simp only [phaseAll, Act.put, List.setIfInBounds_toArray, List.set_cons_zero, List.set_cons_succ]
            refine ⟨?_, ?_, ?_, ?_, ?_, ?_, ?_⟩
            · intro w' hR _
              refine Or.inl ⟨rfl, ?_⟩
              go_simp
              exact ⟨rfl, rfl⟩
            · intro w' hR _
              refine Or.inl ⟨rfl, ?_⟩
              go_simp
              exact ⟨rfl, rfl⟩
            · intro w' hR _
              refine Or.inl ⟨rfl, ?_⟩
              go_simp
              exact ⟨rfl, rfl⟩
            · intro w' hR _
              refine Or.inl ⟨rfl, ?_⟩
              have vv := (a.a.of_block rfl : AllAt wr.drew (w.heap.size + 1) θ).of_block (hR.block _ a.a.lt (fun hh => hh.elim CP.out.l hbA.out))
              have v1 := vv.c1 HK.out
              rw [hθ.out] at v1
              have v1' : w'.cell? ⟨w.heap.size + 1, K * 3 + 1, none⟩ = some (.pointer (some ⟨b, 0, none⟩)) := v1
              clear v1 vv
              go_simp
              exact ⟨rfl, rfl⟩
            · intro w' hR _
              refine Or.inl ⟨rfl, ?_⟩
              have vv := (a.f.drew.v).only hR (fun hh => hh.elim CP.out.f.e hbE.out)
              have y0 := vv.c0
              have y1 := vv.c1
              have y2 := vv.c2
              have y3 := vv.c3
              have y4 := vv.c4
              have y5 := vv.c5
              have y6 := vv.c6
              have y7 := vv.c7
              have y8 := vv.c8
              go_simp
              exact ⟨rfl, rfl⟩
            · intro w' hR _ hP
              refine Or.inl ⟨rfl, ?_⟩
              have hP' : Hid (CrewAt w0 w' L w.heap.size (w.heap.size + 1) n s σ c lk F θ) := hP
              clear hP
              go_simp
              refine (hP'.out.giveDone CP.out C.out HK.out hθ.out (by omega) hends.out).mono ?_
              rintro e w'' ⟨rfl, s9, c9, lk9, F9, γ9, C9, A9, o9⟩
              exact ⟨_, rfl, ⟨o9, s9, c9, lk9, F9, γ9, C9, A9⟩, rfl⟩
            intro w4 hR hP _
            obtain ⟨s4, c4, lk4, F4, γ4, C4, A4⟩ : phDone w0 L w.heap.size (w.heap.size + 1) n σ s c lk F θ K b x 1 w4 := hP
            clear hR a hc1
            have A5 := A4.gone CP.out HK.out (upd_same _ _ _)
            rw [upd_upd] at A5
            have C5 := C4 (.gone b x) trivial rfl (fun y hy => hy)
            have q1 : w4.cell? ⟨w.heap.size + 1, K * 3 + 1, none⟩ = some (.pointer (some ⟨b, 0, none⟩)) := by
              have := A4.a.c1 HK.out
              rw [upd_same] at this
              exact this
            have qf := A4.a.fz
            have A5' : Hid (CrewAt w0 (w4.setCell ⟨w.heap.size + 1, K * 3 + 1, none⟩ (.pointer none)) L w.heap.size (w.heap.size + 1) n s4 (σ + 1) c4 lk4 F4 (upd θ K (.gone b x))) := A5
            have C5' : Hid (Crew n c4 lk4 F4 (upd θ K (.gone b x))) := C5
            clear A5 C5 A4 C4 C
            go_wp2
            go_roundw
            case rel =>
              refine ⟨j + 1, s4, σ + 1, c4, lk4, F4, _, by go_num, ?_, by omega, C5'.out, A5'.out, fun i hi => ?_⟩
              · rw [upd_same]; show j + 1 + 0 ≤ 5; omega
              · rw [upd_other _ _ _ _ (by omega)]; exact G'.out i hi
            case measure => simp [intOf]; omega
          · have he' : γ.ends c = false := by simpa using he
            have hends : Hid (γ.ends c = false) := he'
            clear he he'
            go_wp2
            refine wp_region_phase (Only (L.and b)) (fun x y => y = x) (phOn w0 L w.heap.size (w.heap.size + 1) n σ s c lk F θ K b x γ) [5] [.val (.int .i64 K), .val (.pointer (some ⟨w.heap.size + 1, K * 3, none⟩)), .val (.pointer (some ⟨w.heap.size + 1, K * 3 + 1, none⟩)), .val (.pointer (some ⟨b, 0, none⟩)), .val (.agg #[.int .i64 4, .int .i64 n, .int .i64 1, .int .i64 20, .int .i64 100, .int .i64 600, .int .i64 3, .pointer (some ⟨L.p, 0, none⟩), .int .i64 0]), .val (.bool false)]
              (by kernel_rfl) (Only.refl _) (fun _ _ _ h k => h.trans k) (fun x y h => by subst h; exact Only.refl _ _) (fun x y p h k => by subst h; exact k) (a.grown ((Below.refl _ _).drew)) (by kernel_rfl) (by kernel_rfl) (by kernel_rfl) (by kernel_rfl) (by kernel_rfl) ?_
            simp only [phaseAll, Act.put, List.setIfInBounds_toArray, List.set_cons_zero, List.set_cons_succ]
            refine ⟨?_, ?_, ?_, ?_, ?_, ?_, ?_⟩
            · intro w' hR _
              refine Or.inl ⟨rfl, ?_⟩
              go_simp
              exact ⟨rfl, rfl⟩
            · intro w' hR _
              refine Or.inl ⟨rfl, ?_⟩
              go_simp
              exact ⟨rfl, rfl⟩
            · intro w' hR _
              refine Or.inl ⟨rfl, ?_⟩
              go_simp
              exact ⟨rfl, rfl⟩
            · intro w' hR _
              refine Or.inl ⟨rfl, ?_⟩
              have vv := (a.a.of_block rfl : AllAt wr.drew (w.heap.size + 1) θ).of_block (hR.block _ a.a.lt (fun hh => hh.elim CP.out.l hbA.out))
              have v1 := vv.c1 HK.out
              rw [hθ.out] at v1
              have v1' : w'.cell? ⟨w.heap.size + 1, K * 3 + 1, none⟩ = some (.pointer (some ⟨b, 0, none⟩)) := v1
              clear v1 vv
              go_simp
              exact ⟨rfl, rfl⟩
            · intro w' hR _
              refine Or.inl ⟨rfl, ?_⟩
              have vv := (a.f.drew.v).only hR (fun hh => hh.elim CP.out.f.e hbE.out)
              have y0 := vv.c0
              have y1 := vv.c1
              have y2 := vv.c2
              have y3 := vv.c3
              have y4 := vv.c4
              have y5 := vv.c5
              have y6 := vv.c6
              have y7 := vv.c7
              have y8 := vv.c8
              go_simp
              exact ⟨rfl, rfl⟩
            · intro w' hR _ hP
              refine Or.inl ⟨rfl, ?_⟩
              have hP' : Hid (CrewAt w0 w' L w.heap.size (w.heap.size + 1) n s σ c lk F θ) := hP
              clear hP
              go_simp
              refine (hP'.out.giveOn CP.out C.out HK.out hθ.out (by omega) hends.out).mono ?_
              rintro e w'' ⟨rfl, s9, c9, lk9, F9, γ9, t9, C9, A9, o9⟩
              exact ⟨_, rfl, ⟨o9, s9, c9, lk9, F9, γ9, t9, C9, A9⟩, rfl⟩
            intro w4 hR hP _
            obtain ⟨s4, c4, lk4, F4, γ4, t4, C4, A4⟩ : phOn w0 L w.heap.size (w.heap.size + 1) n σ s c lk F θ K b x γ 1 w4 := hP
            clear hR a hc1
            have hr4 : γ4.rank c4 + 1 = γ.rank c := t4.rank hends.out
            have hr5 : Hid (j + 1 + γ4.rank c4 ≤ 5) := by unfold Hid; have := hrk.out; omega
            have A5' : Hid (CrewAt w0 w4 L w.heap.size (w.heap.size + 1) n s4 (σ + 1) c4 lk4 F4 (upd θ K (.give b x γ4))) := A4
            have C5' : Hid (Crew n c4 lk4 F4 (upd θ K (.give b x γ4))) := C4
            clear A4 C4 C hr4 t4
            go_wp2
            go_roundw
            case rel =>
              refine ⟨j + 1, s4, σ + 1, c4, lk4, F4, _, by go_num, ?_, by omega, C5'.out, A5'.out, fun i hi => ?_⟩
              · rw [upd_same]; exact hr5.out
              · rw [upd_other _ _ _ _ (by omega)]; exact G'.out i hi
            case measure => simp [intOf]; omega
        · have hc1 : wr.cell? ⟨w.heap.size + 1, K * 3 + 1, none⟩ = some (.pointer none) := by rw [← hv1]; exact a.a.c1 HK.out
          have A5' : Hid (CrewAt w0 wr L w.heap.size (w.heap.size + 1) n s σ c lk F θ ∧ Crew n c lk F θ) := ⟨a, C⟩
          have G' : Hid (∀ j, j < K + 1 → (θ j).g = 0) := fun i hi => by
            by_cases e : i = K
            · rw [e]; exact hg0
            · exact G i (by omega)
          clear a C G hv1 hg0
          go_wp2
          go_roundw
          case rel => exact ⟨K + 1, s, σ, c, lk, F, θ, by go_num, HK.out, by omega, A5'.out.2, A5'.out.1, G'.out⟩
          case measure => simp [intOf]; have := HK.out; omega
    · have hK' : ¬ (K : Int) < 3 := by omega
      obtain rfl : K = 3 := by omega
      have hlen : F.length = n := by
        have h1 := C0.sum
        rw [G0 0 (by omega), G0 1 (by omega), G0 2 (by omega)] at h1
        omega
      have A1 : Hid (Field w0 wr L w.heap.size 4 n s σ1 c lk F) := A0.f
      clear A0 C0 G0 hK hK3
      obtain ⟨B, hB⟩ : ∃ B, B = wr.heap.size := ⟨_, rfl⟩
      have hrow := World.rowIs_made wr (.bool false) n 4
      have hLB : Hid (¬ L.has B) := fun hh => by have := A1.out.m.lt B hh; omega
      have hB0 : Hid (w0.heap.size ≤ B) := by unfold Hid; have := A1.out.b.size; omega
      have hBe : Hid (w.heap.size ≠ B) := by unfold Hid; have := World.block_lt_of_cell? _ _ A1.out.v.c0; simp at this; omega
      have A2 : Hid (Field w0 (wr.alloc (.cells (madeCells #[.bool false] n) 4)) L w.heap.size 4 n s σ1 c lk F ∧ (wr.alloc (.cells (madeCells #[.bool false] n) 4)).rowIs B 4 n (fun i => .bool ((fun _ => false) i))) := ⟨A1.out.alloc _, by rw [hB]; exact hrow⟩
      go_wp2
      rw [← hB]
      clear A1 hrow hB
      go_loopw [10] (fun i wq => ∃ (k : Nat) (s : Mm) (σ c : Nat) (F : List Nat) (sn : Nat → Bool), i = .int .i64 k ∧ k + F.length = n ∧ σ ≤ σ1 + 3 * k ∧ Field w0 wq L w.heap.size 4 n s σ c lk F ∧ wq.rowIs B 4 n (fun i => .bool (sn i)) ∧ ∀ x, x ∈ F → sn x = false) (fun i _ => n - (intOf i).toNat)
      case atStart => exact ⟨0, s, σ1, c, F, fun _ => false, rfl, by omega, by omega, A2.out.1, A2.out.2, fun _ _ => rfl⟩
      case round =>
        clear A2
        obtain ⟨k, s, σ, c, F, sn, rfl, hkF, hσ2, f, hrow, hsn⟩ := hrel
        have y0 := f.v.c0
        have y1 := f.v.c1
        have y2 := f.v.c2
        have y3 := f.v.c3
        have y4 := f.v.c4
        have y5 := f.v.c5
        have y6 := f.v.c6
        have y7 := f.v.c7
        have y8 := f.v.c8
        cases F with
        | nil =>
          have hkn : ¬ (k : Int) < (n : Int) := by simp at hkF; omega
          have hk16 : k ≤ 16 := by simp at hkF; omega
          clear hrow hsn hkF
          go_wp2_with (go_at_call 10; refine (f.takeNone CP.out.f (by omega) (by omega)).mono ?_; rintro e w3 ⟨rfl, s3, f3, o3, ln3⟩)
          go_ret
          exact ⟨rfl, f3.b⟩
        | cons x F =>
          have hkn : (k : Int) < (n : Int) := by simp at hkF; omega
          have hk16 : k ≤ 16 := by simp at hkF; omega
          have HX : Hid (x < n) := f.p.lt x (by simp)
          have hxn : (x : Int) < (n : Int) := by have := HX.out; omega
          have hsx : sn x = false := hsn x (by simp)
          have HF : Hid (k + (x :: F).length = n) := hkF
          have hc0 := fun (w' : World) (o : Only L.has wr w') => (o.row hLB.out hrow).cell HX.out
          rw [hsx] at hc0
          have nd : Hid (x ∉ F) := (List.nodup_cons.1 f.p.nd).1
          have HS : Hid (∀ y, y ∈ x :: F → sn y = false) := hsn
          clear hkF hsn
          go_wp2_with (go_at_call 10; refine (f.take CP.out.f (by omega) (by omega)).mono ?_; rintro e w3 ⟨rfl, s3, f3, o3, ln3⟩; have hc1 := hc0 _ o3; have r3 := o3.row hLB.out hrow; have hf1 := r3.frozen)
          go_roundw
          case rel =>
            refine ⟨k + 1, s3, σ + 3, c + 1, F, upd sn x true, by go_num, by have := HF.out; simp at this; omega, by omega, f3.setIn hB0.out hBe.out hLB.out _ _, ?_, fun y hy => ?_⟩
            · refine (r3.set x (.bool true)).congr fun i hi => ?_
              show _ = Value.bool (upd sn x true i)
              unfold upd; split <;> rfl
            · rw [upd_other _ _ _ _ (fun e => nd.out (by rw [← e]; exact hy))]
              exact HS.out y (List.mem_cons_of_mem _ hy)
          case measure => simp [intOf]; omega

end Go.Proofs.Ytfedcddnjollmaa
