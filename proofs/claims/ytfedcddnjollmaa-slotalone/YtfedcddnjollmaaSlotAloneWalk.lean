/- SlotAlone answers true for every number and every slice of bools, and leaves what was in memory. -/
import Derived.Test.YtfedcddnjollmaaSlotVec
import Derived.Test.YtfedcddnjollmaaBools
namespace Go.Proofs.Ytfedcddnjollmaa
open Go.RowKit

/-- the free slots as the numbers of a slice: the first one last -/
def ints (F : List Nat) : List Int := F.reverse.map (fun (x : Nat) => (x : Int))

theorem ints_cons (x : Nat) (F : List Nat) : ints (x :: F) = ints F ++ [(x : Int)] := by simp [ints]
theorem ints_len (F : List Nat) : (ints F).length = F.length := by simp [ints]

/-- two slices of our own, apart from each other and from the arena -/
structure Both (w0 w : World) (L : Loc) (bE bf of cf : Nat) (lf : List Int) (bt ot ct : Nat) (lt : List Int) : Prop where
  f : Vec w bf of cf lf
  t : Vec w bt ot ct lt
  ne : bf ≠ bt
  f0 : w0.heap.size ≤ bf
  t0 : w0.heap.size ≤ bt
  fe : bE ≠ bf
  te : bE ≠ bt
  fl : ¬ L.has bf
  tl : ¬ L.has bt

section
variable {w0 w w' : World} {L : Loc} {bE bf of cf bt ot ct : Nat} {lf lt : List Int}

theorem Both.grown (h : Both w0 w L bE bf of cf lf bt ot ct lt) (g : Below w.heap.size w w') : Both w0 w' L bE bf of cf lf bt ot ct lt :=
  ⟨h.f.grown g, h.t.grown g, h.ne, h.f0, h.t0, h.fe, h.te, h.fl, h.tl⟩
theorem Both.only (h : Both w0 w L bE bf of cf lf bt ot ct lt) (o : Only L.has w w') : Both w0 w' L bE bf of cf lf bt ot ct lt :=
  ⟨h.f.only o h.fl, h.t.only o h.tl, h.ne, h.f0, h.t0, h.fe, h.te, h.fl, h.tl⟩

end

/-- what is written in a block of our own leaves the arena -/
theorem Field.own {w0 w w' : World} {L : Loc} {bE t n : Nat} {s : Mm} {σ c : Nat} {lk : Nat → Nat} {F : List Nat} {b : Nat} (f : Field w0 w L bE t n s σ c lk F) (h0 : w0.heap.size ≤ b) (he : bE ≠ b) (hl : ¬ L.has b) (o : Only (fun k => k = b) w w') : Field w0 w' L bE t n s σ c lk F :=
  ⟨f.m.only o (fun _ hi e => hl (e ▸ hi)), f.p, f.v.only o he, f.b.trans (o.below f.b.size (fun k hk e => by omega))⟩

/-- what a slice that is appended to keeps -/
structure Keeps (bt ot ct : Nat) (lt : List Int) (x : Int) (X Y : World) : Prop where
  only : Only (fun k => k = bt) X Y
  v1 : Vec X bt ot ct lt → Vec Y bt ot ct lt
  v2 : Vec X bt ot ct (lt ++ [x]) → Vec Y bt ot ct (lt ++ [x])

theorem Keeps.refl {bt ot ct : Nat} {lt : List Int} {x : Int} (X : World) : Keeps bt ot ct lt x X X := ⟨Only.refl _ _, id, id⟩
theorem Keeps.trans {bt ot ct : Nat} {lt : List Int} {x : Int} (X Y Z : World) (h : Keeps bt ot ct lt x X Y) (k : Keeps bt ot ct lt x Y Z) : Keeps bt ot ct lt x X Z := ⟨h.only.trans k.only, k.v1 ∘ h.v1, k.v2 ∘ h.v2⟩
theorem Keeps.grown {bt ot ct : Nat} {lt : List Int} {x : Int} {X Y : World} (h : Grown X Y) : Keeps bt ot ct lt x X Y := ⟨Only.ofGrown h, fun v => v.grown h, fun v => v.grown h⟩

/-- an append among a region's operations -/
theorem rely_append {P : Program} {R : World → World → Prop} {o : Oper} {a : Act} {w w' : World} {φ : World → Value → Prop} {t : TypeId} {v vx v' : Value} (s x : Operand)
    (ho : o.op = .call { callee := .builtin .append, args := #[s, x], argTypes := #[t, t] }) (hs : a.eval s = v) (hx : a.eval x = vx)
    (hr : (Builtin.append_ #[t, t] o.type #[v, vx]).run P w = .ok v' w') (hR : R w w') (hφ : φ w' v') : relyUpon P R w φ ((execOp a.eval o).run P w) := by
  unfold execOp
  simp only [ho, resolve, invoke, builtin, Sem.run_bind, Sem.run_pure, Result.andThen_ok, List.map_toArray, List.map_cons, List.map_nil, hs, hx, hr]
  exact ⟨hR, hφ⟩

/-- the slots that are taken -/
structure Taken (n : Nat) (F T : List Nat) : Prop where
  nd : T.Nodup
  lt : ∀ x, x ∈ T → x < n
  no : ∀ x, x ∈ T → x ∉ F
  sum : F.length + T.length = n

theorem Taken.take {n x : Nat} {F T : List Nat} (h : Taken n (x :: F) T) (hx : x < n) (hF : x ∉ F) : Taken n F (T ++ [x]) := by
  refine ⟨?_, fun y hy => ?_, fun y hy => ?_, by have := h.sum; simp at this ⊢; omega⟩
  · rw [List.nodup_append]
    refine ⟨h.nd, by simp, fun a ha b hb => ?_⟩
    simp at hb
    subst hb
    intro e
    subst e
    exact h.no a ha (by simp)
  · rcases List.mem_append.1 hy with hy | hy
    · exact h.lt y hy
    · simp at hy; subst hy; exact hx
  · rcases List.mem_append.1 hy with hy | hy
    · intro hh; exact h.no y hy (List.mem_cons_of_mem _ hh)
    · simp at hy; subst hy; exact hF

theorem Taken.give {n x : Nat} {F T : List Nat} (h : Taken n F (x :: T)) : Taken n (x :: F) T := by
  refine ⟨(List.nodup_cons.1 h.nd).2, fun y hy => h.lt y (List.mem_cons_of_mem _ hy), fun y hy hh => ?_, by have := h.sum; simp at this ⊢; omega⟩
  rcases List.mem_cons.1 hh with rfl | hh
  · exact (List.nodup_cons.1 h.nd).1 hy
  · exact h.no y (List.mem_cons_of_mem _ hy) hh

/-- the taken slots as the numbers of a slice -/
def ups (T : List Nat) : List Int := T.map (fun (x : Nat) => (x : Int))

theorem ups_len (T : List Nat) : (ups T).length = T.length := by simp [ups]
theorem ups_app (T : List Nat) (x : Nat) : ups (T ++ [x]) = ups T ++ [(x : Int)] := by simp [ups]

set_option maxRecDepth 20000 in
set_option maxHeartbeats 4000000 in
theorem slotAlone_any (slots : Int) (ao : Option Addr) (N cap : Nat) (z : Nat → Bool) (w : World) (hr : BoolsAt w ao N z) :
    Calls Try.prog 3 #[.int .i64 slots, .slice ao N cap] w fun e w' => e = .returned (.bool true) ∧ Below w.heap.size w w' := by
  have HR : Hid (BoolsAt w ao N z) := hr
  clear hr
  obtain ⟨n, hn, hn1, hn16⟩ := lowAt slots 15 4 1 (by decide) (by decide)
  have hn' : (1 : Int) + bits .and .i64 slots 15 = (n : Int) := hn
  clear hn
  have AR := fun w => arena06 (t := 1) (n := n) (by omega) (by omega) w
  go_enter Try.func3, Try.ntmps3
  go_wp2_with (first
    | (go_at_call 8; refine (AR _).mono ?_; rintro e w1 ⟨L, s, rfl, m1, p1, hs1, b1, f1⟩)
    | (go_at_call 9; refine (awake06_any _).mono ?_; rintro e w2 ⟨rfl, b2⟩))
  obtain ⟨fd, fa⟩ := Field.first m1 p1 b1 f1
  have FA : Hid (FieldApart w L w1.heap.size) := fa
  have hn16' : n ≤ 16 := by omega
  have z2 : w1.heap.size < w2.heap.size := by have := b2.size; rw [Go.Deep.nblk_alloc] at this; exact this
  have hL2 : Hid (∀ k, L.has k → k < w1.heap.size) := fun k hk => m1.lt k hk
  have A2 : Hid (Field w ((w2.alloc (.cells #[] 3)).alloc (.cells #[] 3)) L w1.heap.size 1 n s (1 + 2 * n) 0 (link0 n) (upFrom n n)) := ((fd.grown b2).alloc _).alloc _
  clear fd fa m1 p1 b1 f1 b2 AR hs1 hn16
  have V2 : Hid (Both w ((w2.alloc (.cells #[] 3)).alloc (.cells #[] 3)) L w1.heap.size w2.heap.size 0 0 (ints (upFrom n 0)) (w2.heap.size + 1) 0 0 []) := by
    have hw := A2.out.b.size
    rw [Go.Deep.nblk_alloc, Go.Deep.nblk_alloc] at hw
    refine ⟨⟨⟨#[], (Go.Deep.blk_alloc_lt _ _ _ (by rw [Go.Deep.nblk_alloc]; omega)).trans (Go.Deep.blk_alloc_new _ _), by simp, fun i x hx => by simp [ints, upFrom] at hx⟩, by simp [ints, upFrom]⟩, ⟨⟨#[], by rw [← Go.Deep.nblk_alloc]; exact Go.Deep.blk_alloc_new _ _, by simp, fun i x hx => by simp at hx⟩, by simp⟩, by omega, ?_, ?_, by omega, by omega, fun hh => by have := hL2.out _ hh; omega, fun hh => by have := hL2.out _ hh; omega⟩
    · have := FA.out.e0; omega
    · have := FA.out.e0; omega
  have hL3 : Hid (∀ k, L.has k → k < w1.heap.size) := hL2
  clear hL2
  go_loopw [8, 10] (fun v i wr => ∃ (k bf of cf : Nat), k ≤ n ∧ v = .slice (some ⟨bf, of, none⟩) k cf ∧ i = .int .i64 ((n : Int) - 1 - k) ∧ Field w wr L w1.heap.size 1 n s (1 + 2 * n) 0 (link0 n) (upFrom n n) ∧ Both w wr L w1.heap.size bf of cf (ints (upFrom n k)) (w2.heap.size + 1) 0 0 []) (fun _ i _ => (intOf i + 1).toNat)
  case atStart => exact ⟨0, _, 0, 0, by omega, rfl, by simp, A2.out, V2.out⟩
  case round =>
    clear A2 V2
    obtain ⟨k, bf, of, cf, hkn, rfl, rfl, f, v⟩ := hrel
    by_cases hk : k < n
    · have hk' : 0 ≤ (n : Int) - 1 - (k : Int) := by omega
      have hlen : (ints (upFrom n k)).length = k := by rw [ints_len, upFrom_len]
      obtain ⟨b', off', cap', w', hrun, v', o', hwh⟩ := Vec.app (v.f.grown (grow_alloc (Below.refl _ _) (.cells #[.int .i64 ((n : Int) - 1 - k)] 3))) wr.heap.size ((n : Int) - 1 - k) (by simp) (by omega) 31
      rw [hlen] at hrun
      have HW : Hid ((b' = bf ∧ off' = of ∧ cap' = cf ∧ Vec w' bf of cf (ints (upFrom n k))) ∨ ((wr.alloc (.cells #[.int .i64 ((n : Int) - 1 - k)] 3)).heap.size ≤ b' ∧ Grown (wr.alloc (.cells #[.int .i64 ((n : Int) - 1 - k)] 3)) w')) := hwh
      clear hwh
      go_wp2_with (at_builtin; refine wpList_ran rfl (.tmp 38) (.tmp 40) rfl rfl rfl hrun ?_)
      go_roundw
      case rel =>
        refine ⟨k + 1, b', off', cap', by omega, rfl, by go_num, ?_, ?_⟩
        · exact (f.alloc _).own v.f0 v.fe v.fl o'
        · have hx : ((n : Int) - 1 - k) = ((n - (k + 1) : Nat) : Int) := by omega
          rw [hx, ← ints_cons] at v'
          have t' := (v.t.grown (grow_alloc (Below.refl _ _) (.cells #[.int .i64 ((n : Int) - 1 - k)] 3))).only o' v.ne.symm
          rcases HW.out with ⟨rfl, rfl, rfl, _⟩ | ⟨hge, _⟩
          · exact ⟨v', t', v.ne, v.f0, v.t0, v.fe, v.te, v.fl, v.tl⟩
          · rw [Go.Deep.nblk_alloc] at hge
            have h1 := v.t.lt
            have h2 := f.b.size
            have h3 := World.block_lt_of_cell? _ _ f.v.c0
            simp at h3
            exact ⟨v', t', by omega, by omega, v.t0, by omega, v.te, fun hh => by have := f.m.lt _ hh; omega, v.tl⟩
      case measure => simp [intOf]; omega
    · obtain rfl : k = n := by omega
      have hk' : ¬ 0 ≤ (k : Int) - 1 - (k : Int) := by omega
      have hk16 : k ≤ 16 := hn16'
      have A3 : Hid (Field w wr L w1.heap.size 1 k s (1 + 2 * k) 0 (link0 k) (upFrom k k) ∧ Both w wr L w1.heap.size bf of cf (ints (upFrom k k)) (w2.heap.size + 1) 0 0 (ups []) ∧ Taken k (upFrom k k) []) := ⟨f, v, ⟨List.nodup_nil, by simp, by simp, by rw [upFrom_len]; simp⟩⟩
      clear f v hk hkn
      go_wp2
      clear hk'
      go_loopw [8, 9, 11] (fun vf vt i wr => ∃ (j : Nat) (s' : Mm) (σ c : Nat) (lk : Nat → Nat) (F T : List Nat) (bf of cf bt ot ct : Nat), vf = .slice (some ⟨bf, of, none⟩) F.length cf ∧ vt = .slice (some ⟨bt, ot, none⟩) T.length ct ∧ i = .int .i64 j ∧ j ≤ 60 ∧ σ ≤ 1 + 2 * k + 3 * j ∧ Field w wr L w1.heap.size 1 k s' σ c lk F ∧ Both w wr L w1.heap.size bf of cf (ints F) bt ot ct (ups T) ∧ Taken k F T) (fun _ _ i _ => 60 - (intOf i).toNat)
      case atStart => exact ⟨0, s, _, 0, _, upFrom k k, [], bf, of, cf, _, 0, 0, by rw [upFrom_len], rfl, rfl, by omega, by omega, A3.out.1, A3.out.2.1, A3.out.2.2⟩
      case round =>
        clear A3
        obtain ⟨j, s', σ, c, lk, F, T, bf, of, cf, bt, ot, ct, rfl, rfl, rfl, hj60, hσ, f, v, tk⟩ := hrel
        by_cases hend : j < N ∧ j < 60
        · obtain ⟨hjN, hj6⟩ := hend
          have hj6' : (j : Int) < 60 := by omega
          have hjN' : (j : Int) < (N : Int) := by omega
          obtain ⟨zb, zo, rfl, hz0⟩ := HR.out j hjN
          have hz := keep' f.b hz0
          clear hz0
          have y0 := f.v.c0
          have y1 := f.v.c1
          have y2 := f.v.c2
          have y3 := f.v.c3
          have y4 := f.v.c4
          have y5 := f.v.c5
          have y6 := f.v.c6
          have y7 := f.v.c7
          have y8 := f.v.c8
          have TK : Hid (Taken k F T) := tk
          have VB : Hid (Both w wr L w1.heap.size bf of cf (ints F) bt ot ct (ups T)) := v
          have hsum := tk.sum
          clear tk
          by_cases hzt : z j = true
          · rw [hzt] at hz
            have hF : F = [] ∨ ∃ x F', F = x :: F' := by cases F with | nil => exact .inl rfl | cons x F' => exact .inr ⟨x, F', rfl⟩
            rcases hF with rfl | ⟨x, F', rfl⟩
            · clear v
              go_wp2_with (go_at_call 10; refine (f.takeNone FA.out (by omega) (by omega)).mono ?_; rintro e w3 ⟨rfl, s3, f3, o3, ln3⟩)
              go_roundw
              case rel => exact ⟨j + 1, s3, σ + 1, c, lk, [], T, bf, of, cf, bt, ot, ct, rfl, rfl, by go_num, by omega, by omega, f3, VB.out.only o3, TK.out⟩
              case measure => simp [intOf]; omega
            · have hx : Hid (x < k) := f.p.lt x (by simp)
              have hxF : Hid (x ∉ F') := (List.nodup_cons.1 f.p.nd).1
              have hle := v.f.le
              rw [ints_cons] at hle
              simp only [List.length_append, ints_len, List.length_cons, List.length_nil] at hle
              have hle' : (F'.length : Int) + 1 ≤ (cf : Int) := by omega
              have hl9 : F'.length ≤ cf := by omega
              have hl0 : Hid (ups T = ups T ∧ (ups T).length = T.length) := ⟨rfl, ups_len T⟩
              simp only [List.length_cons] at hsum ⊢
              clear v
              go_wp2_with (go_at_call 10; refine (f.take FA.out (by omega) (by omega)).mono ?_; rintro e w3 ⟨rfl, s3, f3, o3, ln3⟩; have v3 := VB.out.only o3; have hlast : w3.cell? ⟨bf, of + F'.length, none⟩ = some (.int .i64 x) := v3.f.cell (by rw [ints_cons, List.getElem?_append_right (by rw [ints_len]; omega), ints_len, Nat.sub_self]; rfl))
              have V3 : Hid (Both w w3 L w1.heap.size bf of cf (ints (x :: F')) bt ot ct (ups T)) := v3
              clear v3 hlast
              refine wp_region_rely_tail (Keeps bt ot ct (ups T) x) 9 [.val (.slice (some ⟨bf, of, none⟩) (F'.length + 1) cf), .val (.slice (some ⟨bf, of, none⟩) (F'.length + 1) cf), .val (.int .i64 ((F'.length : Int) + 1)), .val (.int .i64 (F'.length : Int)), .val (.slice (some ⟨bf, of, none⟩) F'.length cf),
                .val (.slice (some ⟨bt, ot, none⟩) T.length ct), .val (.int .i64 x), .that (fun W v => ∃ g, v = .slice (some ⟨g, 0, none⟩) 1 1 ∧ W.cell? ⟨g, 0, none⟩ = some (.int .i64 x) ∧ g ≠ bt) ?_,
                .that (fun W v => ∃ b' o' c', v = .slice (some ⟨b', o', none⟩) (T.length + 1) c' ∧ Vec W b' o' c' (ups T ++ [(x : Int)]) ∧ ((b' = bt ∧ o' = ot ∧ c' = ct) ∨ w3.heap.size ≤ b')) ?_] (by kernel_rfl) Keeps.refl Keeps.trans (by decide) (by kernel_rfl) (by kernel_rfl) (by kernel_rfl) (by kernel_rfl) (by kernel_rfl) (by kernel_rfl) ?_
              · rintro X Y v hK ⟨g, h1, h2, h3⟩
                exact ⟨g, h1, hK.only.keep (b := g) h3 h2, h3⟩
              · rintro X Y v hK ⟨b', o', c', h1, h2, h3⟩
                refine ⟨b', o', c', h1, ?_, h3⟩
                rcases h3 with ⟨rfl, rfl, rfl⟩ | h3
                · exact hK.v2 h2
                · have := V3.out.t.lt
                  exact h2.only hK.only (by omega)
              · simp only [List.take_succ_cons, List.take_zero, relyAll, Act.put, List.setIfInBounds_toArray, List.set_cons_zero, List.set_cons_succ]
                refine ⟨?_, ?_, ?_, ?_, ?_, ?_, ?_, ?_, fun v7 => ⟨?_, fun v8 => ?_⟩⟩
                · intro w' hg _
                  refine Or.inl ⟨rfl, ?_⟩
                  go_simp
                  exact ⟨Keeps.refl _, by simp [Want.pred]⟩
                · intro w' hg _
                  refine Or.inl ⟨rfl, ?_⟩
                  go_simp
                  exact ⟨Keeps.refl _, by simp [Want.pred]⟩
                · intro w' hg _
                  refine Or.inl ⟨rfl, ?_⟩
                  go_simp
                  exact ⟨Keeps.refl _, by simp [Want.pred]⟩
                · intro w' hg _
                  refine Or.inl ⟨rfl, ?_⟩
                  go_simp
                  exact ⟨Keeps.refl _, by simp [Want.pred]; rw [IntKind.wrap_i64]; omega⟩
                · intro w' hg _
                  refine Or.inl ⟨rfl, ?_⟩
                  go_simp
                  exact ⟨Keeps.refl _, by simp [Want.pred]⟩
                · intro w' hg _
                  refine Or.inl ⟨rfl, ?_⟩
                  go_simp
                  exact ⟨Keeps.refl _, by simp [Want.pred]⟩
                · intro w' hg _
                  refine Or.inl ⟨rfl, ?_⟩
                  go_simp
                  exact ⟨Keeps.refl _, by simp [Want.pred]⟩
                · intro w' hg _
                  refine Or.inl ⟨rfl, ?_⟩
                  go_simp
                  refine ⟨Keeps.grown (grow_alloc (Below.refl _ _) _), _, rfl, by simp, ?_⟩
                  have h1 := V3.out.t.lt
                  have h2 := hg.only.size
                  have h3 : w3.drew.heap.size = w3.heap.size := rfl
                  omega
                · intro w' hg hf
                  refine Or.inl ⟨rfl, ?_⟩
                  obtain ⟨g, rfl, hgc, hgb⟩ := hf.1 (by kernel_rfl)
                  clear hf
                  have vt : Vec w' bt ot ct (ups T) := hg.v1 (V3.out.t.of_block rfl)
                  obtain ⟨b', o', c', w4, hrun, v4, on4, hw4⟩ := vt.app g x hgc (by rw [hl0.out.2]; omega) 31
                  rw [hl0.out.2] at hrun
                  have h2 := hg.only.size
                  have h3 : w3.drew.heap.size = w3.heap.size := rfl
                  refine rely_append (.tmp 98) (.tmp 100) rfl rfl rfl hrun ?_ ⟨b', o', c', rfl, v4, ?_⟩
                  · rcases hw4 with ⟨rfl, rfl, rfl, vk⟩ | ⟨_, hgr⟩
                    · exact ⟨on4, fun _ => vk, fun _ => v4⟩
                    · exact Keeps.grown hgr
                  · rcases hw4 with ⟨h4, h5, h6, _⟩ | ⟨hge, _⟩
                    · exact Or.inl ⟨h4, h5, h6⟩
                    · exact Or.inr (by omega)
                · intro w4 hg hf
                  obtain ⟨⟨b', o', c', rfl, v4, hb'⟩, -, -⟩ := hf
                  have f4 := (f3.drew).own V3.out.t0 V3.out.te V3.out.tl hg.only
                  have vf4 : Vec w4 bf of cf (ints F') := (Vec.init (by rw [← ints_cons]; exact V3.out.f) : Vec w3 bf of cf (ints F')).only (o := (⟨hg.only.os, hg.only.tape, hg.only.output, hg.only.size, hg.only.block⟩ : Only (fun k => k = bt) w3 w4)) V3.out.ne
                  have V4 : Both w w4 L w1.heap.size bf of cf (ints F') b' o' c' (ups (T ++ [x])) := by
                    rw [ups_app]
                    rcases hb' with ⟨rfl, rfl, rfl⟩ | hge
                    · exact ⟨vf4, v4, V3.out.ne, V3.out.f0, V3.out.t0, V3.out.fe, V3.out.te, V3.out.fl, V3.out.tl⟩
                    · have h1 := V3.out.f.lt
                      have h2 := f3.b.size
                      have h3 := World.block_lt_of_cell? _ _ f3.v.c0
                      simp at h3
                      exact ⟨vf4, v4, by omega, V3.out.f0, by omega, V3.out.fe, by omega, V3.out.fl, fun hh => by have := f3.m.lt _ hh; omega⟩
                  have V4' : Hid (Both w w4 L w1.heap.size bf of cf (ints F') b' o' c' (ups (T ++ [x]))) := V4
                  clear V4 vf4 v4 hb' hg V3 VB
                  simp only [List.drop_succ_cons, List.drop_zero]
                  go_wp2
                  go_roundw
                  case rel => exact ⟨j + 1, s3, σ + 3, c + 1, lk, F', T ++ [x], bf, of, cf, b', o', c', rfl, by simp, by go_num, by omega, by omega, f4, V4'.out, TK.out.take hx.out hxF.out⟩
                  case measure => simp [intOf]; omega
          · have hzf : z j = false := by simpa using hzt
            rw [hzf] at hz
            have hT : T = [] ∨ ∃ y T', T = y :: T' := by cases T with | nil => exact .inl rfl | cons y T' => exact .inr ⟨y, T', rfl⟩
            rcases hT with rfl | ⟨y, T', rfl⟩
            · clear v
              go_wp2
              go_roundw
              case rel => exact ⟨j + 1, s', σ, c, lk, F, [], bf, of, cf, bt, ot, ct, rfl, rfl, by go_num, by omega, by omega, f, VB.out, TK.out⟩
              case measure => simp [intOf]; omega
            · have HY : Hid (y < k) := TK.out.lt y (by simp)
              have HYF : Hid (y ∉ F) := TK.out.no y (by simp)
              have hle := v.t.le
              rw [ups_len] at hle
              have hy0 : wr.cell? ⟨bt, ot, none⟩ = some (.int .i64 y) := v.t.cell (i := 0) rfl
              simp only [List.length_cons] at hsum hle ⊢
              have hle' : (T'.length : Int) + 1 ≤ (ct : Int) := by omega
              by_cases hct0 : ct = 1
              · have hct : ct = 1 := hct0
                have hct1 : (ct : Int) = 1 := by omega
                have HT : Hid (Vec wr bt ot (ct - 1) (ups T')) := v.t.tail1 hct
                clear v
                subst hct
                go_wp2_with (first
                  | (go_at_call 11; refine (f.give FA.out (by omega) (by omega) HY.out HYF.out).mono ?_; rintro e w3 ⟨rfl, s3, f3, o3, ln3⟩; have v3 := VB.out.only o3; obtain ⟨b5, c5, w5, hrun5, v5, g5, hb5⟩ := (v3.f.grown (grow_alloc (Below.refl _ _) (.cells #[] 3))).copy w3.heap.size (Go.Deep.blk_alloc_new _ _) (by rw [ints_len]; omega) 31 w3.heap.size (Nat.le_refl _); rw [ints_len] at hrun5; obtain ⟨b6, o6, c6, w6, hrun6, v6, on6, hw6⟩ := (v5.grown (grow_alloc (Below.refl _ _) (.cells #[.int .i64 y] 3))).app w5.heap.size y (by simp) (by rw [ints_len]; omega) 31; rw [ints_len] at hrun6)
                  | (at_builtin; refine wpList_ran rfl (.tmp 114) (.tmp 115) rfl rfl rfl hrun5 ?_)
                  | (at_builtin; refine wpList_ran rfl (.tmp 116) (.tmp 118) rfl rfl rfl hrun6 ?_))
                have hW3 := f3.b.size
                have hE3 := World.block_lt_of_cell? _ _ f3.v.c0
                simp at hE3
                have g35 : Below w3.heap.size w3 (w5.alloc (.cells #[.int .i64 y] 3)) := grow_alloc (grow (grow_alloc (Below.refl _ _) _) g5) _
                have hL3 : ¬ L.has b5 := fun hh => by have := f3.m.lt _ hh; omega
                have f6 := (f3.grown g35).own (b := b5) (by omega) (by omega) hL3 on6
                have t6 := ((HT.out.only o3 VB.out.tl).grown g35).only on6 (by have := v3.t.lt; omega)
                rw [← ints_cons] at v6
                have hb6 : w3.heap.size ≤ b6 := by
                  rcases hw6 with ⟨h1, -, -, -⟩ | ⟨h1, -⟩
                  · omega
                  · have h2 := g35.size; omega
                have V6 : Hid (Both w w6 L w1.heap.size b6 o6 c6 (ints (y :: F)) bt ot (1 - 1) (ups T')) := ⟨v6, t6, by have := v3.t.lt; omega, by omega, VB.out.t0, by omega, VB.out.te, fun hh => by have := f3.m.lt _ hh; omega, VB.out.tl⟩
                clear v6 t6 v5 v3 hw6 on6 g5 hrun5 hrun6 hb6
                go_roundw
                case rel => exact ⟨j + 1, s3, σ + 3, c + 1, _, y :: F, T', b6, o6, c6, bt, ot, 1 - 1, rfl, by rw [show T'.length = 0 by omega], by go_num, by omega, by omega, f6, V6.out, TK.out.give⟩
                case measure => simp [intOf]; omega
              · have hct : ¬ ct = 1 := hct0
                have hct1 : ¬ (ct : Int) = 1 := by omega
                have HT : Hid (Vec wr bt (ot + 1) (ct - 1) (ups T')) := v.t.tail
                clear v
                clear hct0
                go_wp2_with (first
                  | (go_at_call 11; refine (f.give FA.out (by omega) (by omega) HY.out HYF.out).mono ?_; rintro e w3 ⟨rfl, s3, f3, o3, ln3⟩; have v3 := VB.out.only o3; obtain ⟨b5, c5, w5, hrun5, v5, g5, hb5⟩ := (v3.f.grown (grow_alloc (Below.refl _ _) (.cells #[] 3))).copy w3.heap.size (Go.Deep.blk_alloc_new _ _) (by rw [ints_len]; omega) 31 w3.heap.size (Nat.le_refl _); rw [ints_len] at hrun5; obtain ⟨b6, o6, c6, w6, hrun6, v6, on6, hw6⟩ := (v5.grown (grow_alloc (Below.refl _ _) (.cells #[.int .i64 y] 3))).app w5.heap.size y (by simp) (by rw [ints_len]; omega) 31; rw [ints_len] at hrun6)
                  | (at_builtin; refine wpList_ran rfl (.tmp 114) (.tmp 115) rfl rfl rfl hrun5 ?_)
                  | (at_builtin; refine wpList_ran rfl (.tmp 116) (.tmp 118) rfl rfl rfl hrun6 ?_))
                have hW3 := f3.b.size
                have hE3 := World.block_lt_of_cell? _ _ f3.v.c0
                simp at hE3
                have g35 : Below w3.heap.size w3 (w5.alloc (.cells #[.int .i64 y] 3)) := grow_alloc (grow (grow_alloc (Below.refl _ _) _) g5) _
                have hL3 : ¬ L.has b5 := fun hh => by have := f3.m.lt _ hh; omega
                have f6 := (f3.grown g35).own (b := b5) (by omega) (by omega) hL3 on6
                have t6 := ((HT.out.only o3 VB.out.tl).grown g35).only on6 (by have := v3.t.lt; omega)
                rw [← ints_cons] at v6
                have hb6 : w3.heap.size ≤ b6 := by
                  rcases hw6 with ⟨h1, -, -, -⟩ | ⟨h1, -⟩
                  · omega
                  · have h2 := g35.size; omega
                have V6 : Hid (Both w w6 L w1.heap.size b6 o6 c6 (ints (y :: F)) bt (ot + 1) (ct - 1) (ups T')) := ⟨v6, t6, by have := v3.t.lt; omega, by omega, VB.out.t0, by omega, VB.out.te, fun hh => by have := f3.m.lt _ hh; omega, VB.out.tl⟩
                clear v6 t6 v5 v3 hw6 on6 g5 hrun5 hrun6 hb6
                go_roundw
                case rel => exact ⟨j + 1, s3, σ + 3, c + 1, _, y :: F, T', b6, o6, c6, bt, ot + 1, ct - 1, rfl, rfl, by go_num, by omega, by omega, f6, V6.out, TK.out.give⟩
                case measure => simp [intOf]; omega
        · by_cases hjN : j < N
          · have hjN' : (j : Int) < (N : Int) := by omega
            have hj6' : ¬ (j : Int) < 60 := by omega
            have B := f.b
            clear hend f v tk
            go_wp2
            go_ret
            exact ⟨rfl, B⟩
          · have hjN' : ¬ (j : Int) < (N : Int) := by omega
            have B := f.b
            clear hend f v tk
            go_wp2
            go_ret
            exact ⟨rfl, B⟩

end Go.Proofs.Ytfedcddnjollmaa
