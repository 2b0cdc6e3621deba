/- QueuePlays answers true for every number and every slice of numbers, and leaves what was in memory. -/
import Derived.Test.YtefgbmednphebaaQueueTurnsWalk
import Derived.Test.YtefgbmednphebaaRely
import Derived.ArgAppend
namespace Go.Proofs.Ytefgbmednphebaa
open Go.RowKit Go.Conc

/-- v is a slice of the numbers l -/
def SliceOf (w : World) (v : Value) (l : List Int) : Prop :=
  ∃ b off cap, v = .slice (some ⟨b, off, none⟩) l.length cap ∧ l.length ≤ cap ∧ ∀ i x, l[i]? = some x → w.cell? ⟨b, off + i, none⟩ = some (.int .i64 x)

/-- what leaves all cells leaves the slice -/
theorem SliceOf.kept {w w' : World} {v : Value} {l : List Int} (h : SliceOf w v l) (k : ∀ b o u, w.cell? ⟨b, o, none⟩ = some u → w'.cell? ⟨b, o, none⟩ = some u) : SliceOf w' v l := by
  obtain ⟨b, off, cap, e, hc, hx⟩ := h
  exact ⟨b, off, cap, e, hc, fun i x hi => k _ _ _ (hx i x hi)⟩

theorem SliceOf.grown {w w' : World} {v : Value} {l : List Int} (h : SliceOf w v l) (k : Below w.heap.size w w') : SliceOf w' v l := h.kept fun _ _ _ hc => keep' k hc

theorem SliceOf.drewN {w : World} {v : Value} {l : List Int} (h : SliceOf w v l) (n : Nat) : SliceOf (w.drewN n) v l := h.kept fun _ _ _ hc => hc

theorem QueueAt.drewN {w : World} {L : Qloc} {m : Nat} {l : List Int} (h : QueueAt w L m l) (n : Nat) : QueueAt (w.drewN n) L m l := ⟨h.obj, h.ch, h.d, h.most, h.len⟩

/-- a queue's channel has no cells -/
theorem SliceOf.queue {w w' : World} {v : Value} {l q : List Int} {L : Qloc} {m : Nat} (h : SliceOf w v l) (hq : QueueAt w L m q) (o : Only L.has w w') : SliceOf w' v l := by
  obtain ⟨s, r, hc⟩ := hq.ch
  refine h.kept fun b i u hu => o.keep (fun e => ?_) hu
  have e' : b = L.c := e
  subst e'
  simp [World.cell?, hc] at hu

theorem SliceOf.own {w : World} {v : Value} {l : List Int} {base : Nat} (h : w.ownsRow base 3 1 v l.length (l.map (Value.int .i64))) (hv : v ≠ .slice none 0 0) : SliceOf w v l := by
  rcases h.2 with ⟨h', _⟩ | ⟨g, cap, cur, h', _, hg, hcap, _, _, htake⟩
  · exact absurd h' hv
  · refine ⟨g, 0, cap, h', hcap, fun i x hi => ?_⟩
    subst h'
    have hlt : i < l.length := (List.getElem?_eq_some_iff.1 hi).1
    have := h.cellAt i (by omega)
    rw [Nat.zero_add, this, List.getElem?_map, hi]
    rfl

theorem slice_tail {w : World} {b off n cap : Nat} {x : Int} {t : List Int} (h : SliceOf w (.slice (some ⟨b, off, none⟩) n cap) (x :: t)) :
    SliceOf w (.slice (if cap = 1 then some ⟨b, off, none⟩ else some ⟨b, off + 1, none⟩) t.length (cap - 1)) t := by
  obtain ⟨b', off', cap', e, hc, hx⟩ := h
  simp only [Value.slice.injEq, Option.some.injEq, Addr.mk.injEq, and_true] at e
  obtain ⟨⟨rfl, rfl⟩, rfl, rfl⟩ := e
  simp only [List.length_cons] at hc
  by_cases h1 : cap = 1
  · rw [if_pos h1]
    refine ⟨b, off, _, rfl, by omega, fun i y hi => ?_⟩
    have := (List.getElem?_eq_some_iff.1 hi).1
    omega
  · rw [if_neg h1]
    refine ⟨b, off + 1, _, rfl, by omega, fun i y hi => ?_⟩
    have := hx (i + 1) y (by simpa using hi)
    rwa [show off + 1 + i = off + (i + 1) from by omega]

theorem Grown.by {w w' : World} (h : Grown w w') (row : Option Nat) : w.grownBy w' row := ⟨h.os, h.tape, h.output, h.size, fun k hk _ => h.block k hk⟩
theorem Grown.of {w w' : World} (h : w.grownBy w' none) : Grown w w' := ⟨h.os, h.tape, h.output, h.size, fun k hk => h.block k hk (by simp)⟩

theorem Try.infoI3 : (Try.prog.info? 3).map (fun i => (i.zero, i.size, i.bytes)) = some (some (.int .i64 0), 1, 8) := by kernel_rfl

/-- a copy of a slice's numbers: an append to an empty slice -/
theorem append_copy {w : World} {v0 vm : Value} {l : List Int} {base : Nat} (h0 : w.ownsRow base 3 1 v0 0 []) (hn : ∃ g, v0 = .slice (some ⟨g, 0, none⟩) 0 0) (hm : SliceOf w vm l) (hl : l.length ≤ 1000) (hb : base ≤ w.heap.size) (ty : TypeId) :
    ∃ v w', (Builtin.append_ #[22, 22] ty #[v0, vm]).run Try.prog w = .ok v w' ∧ w'.ownsRow base 3 1 v l.length (l.map (Value.int .i64)) ∧ v ≠ .slice none 0 0 ∧ Grown w w' := by
  obtain ⟨i0, hi, hz0, hz1, hz2⟩ := info_parts Try.infoI3
  obtain ⟨b, off, cap, rfl, hc, hx⟩ := hm
  obtain ⟨g, rfl⟩ := hn
  have hnews : ∀ j u, (l.map (Value.int .i64))[j]? = some u → w.cell? ((⟨b, off, none⟩ : Addr).add j) = some u := fun j u hu => by
    rw [List.getElem?_map] at hu
    obtain ⟨x, hx1, rfl⟩ := Option.map_eq_some_iff.1 hu
    rw [show (⟨b, off, none⟩ : Addr).add j = ⟨b, off + j, none⟩ from by unfold Addr.add; split <;> simp_all]
    exact hx j x hx1
  cases l with
  | nil =>
    have hr := run_append_room_cells (P := Try.prog) w 22 ty 3 i0 Try.underlying22 hi g 0 0 0 ⟨b, off, none⟩ 0 cap [] (by simp) (by simp) (by simp) (by omega) (by simp) (by simp)
    refine ⟨_, _, hr, ?_, by simp, ?_⟩
    · simpa [World.setCells] using h0
    · simpa [World.setCells] using Grown.refl w
  | cons x t =>
    obtain ⟨v', w', hr, ho, hg⟩ := run_append_arg_grows (P := Try.prog) w 22 ty 3 i0 (.int .i64 0) 1 8 Try.underlying22 hi hz0 hz1 hz2 rfl (by decide) ⟨g, 0, none⟩ 0 0 [] (by simp) (by simp)
      ⟨b, off, none⟩ (x :: t).length cap ((x :: t).map (Value.int .i64)) (by simp) hnews (by simp) (by unfold maxLen; simp at hl ⊢; omega) (by simp at hl ⊢; omega)
    refine ⟨v', w', hr, ?_, ?_, Grown.of hg⟩
    · simp only [Nat.zero_add, List.nil_append] at ho
      rcases ho.2 with ⟨_, h2⟩ | ⟨g', cap', cur, h', hb', hrest⟩
      · simp at h2
      · exact ⟨ho.1, .inr ⟨g', cap', cur, h', by omega, hrest⟩⟩
    · intro e
      subst e
      rcases ho.2 with ⟨_, h2⟩ | ⟨g', cap', cur, h', _⟩
      · simp at h2
      · simp at h'

/-- an append among a region's operations -/
theorem rely_append {P : Program} {R : World → World → Prop} {o : Oper} {a : Act} {w w' : World} {φ : World → Value → Prop} {t : TypeId} {v vx v' : Value} (s x : Operand)
    (ho : o.op = .call { callee := .builtin .append, args := #[s, x], argTypes := #[t, t] }) (hs : a.eval s = v) (hx : a.eval x = vx)
    (hr : (Builtin.append_ #[t, t] o.type #[v, vx]).run P w = .ok v' w') (hR : R w w') (hφ : φ w' v') : relyUpon P R w φ ((execOp a.eval o).run P w) := by
  unfold execOp
  simp only [ho, resolve, invoke, builtin, Sem.run_bind, Sem.run_pure, Result.andThen_ok, List.map_toArray, List.map_cons, List.map_nil, hs, hx, hr]
  exact ⟨hR, hφ⟩

theorem news1 {w : World} {g : Nat} {u : Value} (h : w.cell? ⟨g, 0, none⟩ = some u) : ∀ j u', [u][j]? = some u' → w.cell? ((⟨g, 0, none⟩ : Addr).add j) = some u' := by
  intro j u' hj
  cases j with
  | zero => simp at hj; subst hj; simpa [Addr.add] using h
  | succ j => simp at hj

set_option maxRecDepth 20000 in
set_option maxHeartbeats 2000000 in
theorem qplays_any (most : Int) (ao : Option Addr) (n cap : Nat) (z : Nat → Int) (w : World) (hr : IntsAt .i64 w ao n z) :
    Calls Try.prog 3 #[.int .i64 most, .slice ao n cap] w fun e w' => e = .returned (.bool true) ∧ Below w.heap.size w w' := by
  have HR : Hid (IntsAt .i64 w ao n z) := hr
  clear hr
  obtain ⟨c, k, hc, hck, hk1, hk2⟩ := low4 most
  go_enter Try.func3, Try.ntmps3
  go_wp2_with (first
    | (go_at_call 7; refine (qnew_in k hk1 (by omega) _).mono ?_; rintro e w1 ⟨L, rfl, q1, b1, f1⟩)
    | (go_at_call 8; refine (awake03_any _).mono ?_; rintro e w2 ⟨rfl, b2⟩))
  have q2 := (q1.below (grow_alloc (Below.refl w1.heap.size w1) _)).below b2
  have b3 := grow (grow_alloc b1 _) b2
  have s3 : SliceOf w2 (.slice (some ⟨w1.heap.size, 0, none⟩) 0 0) [] := ⟨_, 0, 0, rfl, Nat.le_refl _, fun i x h => by simp at h⟩
  clear q1 b1 b2
  go_loopw [8, 9] (fun vm vi wr => ∃ (j : Nat) (l : List Int), j ≤ n ∧ j ≤ 100 ∧ vi = .int .i64 j ∧ SliceOf wr vm l ∧ QueueAt wr L k l ∧ Below w.heap.size w wr) (fun _ vi _ => 100 - (intOf vi).toNat)
  case atStart => exact ⟨0, [], Nat.zero_le _, Nat.zero_le _, rfl, s3, q2, b3⟩
  case round =>
    clear s3 q2 b3
    obtain ⟨j, l, hj, hj2, rfl, hs, hq, hb⟩ := hrel
    have hlk := hq.len
    by_cases hend : j < n ∧ j < 100
    · obtain ⟨h1, h2⟩ := hend
      have h1' : (j : Int) < (n : Int) := by omega
      have h2' : (j : Int) < 100 := by omega
      obtain ⟨ab, aoff, rfl, hcell⟩ := HR.out j h1
      have hc1 := keep' hb hcell
      by_cases h3 : (z j).tmod 3 = 0
      · cases l with
        | nil =>
          obtain ⟨b, off, cap', rfl, hcap, hx⟩ := hs
          have hs' : SliceOf wr (.slice (some ⟨b, off, none⟩) ([] : List Int).length cap') [] := ⟨b, off, cap', rfl, hcap, hx⟩
          simp only [List.length_nil] at hlk hcap hs' ⊢
          go_wp2_with (first
            | (go_at_call 9; refine (qpop_none hq).mono ?_; rintro e w3 ⟨rfl, rfl⟩)
            | (go_at_call 11; refine (qlen_any hq).mono ?_; rintro e w4 ⟨rfl, rfl⟩)
            | (go_at_call 12; refine (qroom_any hq).mono ?_; rintro e w5 ⟨rfl, n5, rfl⟩))
          go_roundw
          case rel => exact ⟨j + 1, [], by omega, by omega, by go_num, hs'.drewN _, hq.drewN _, below_drewN hb _⟩
          case measure => simp [intOf]; omega
        | cons x t =>
          have hs2 := fun (w' : World) (o : Only L.has wr w') => hs.queue hq o
          obtain ⟨b, off, cap', rfl, hcap, hx⟩ := hs
          simp only [List.length_cons] at hlk hcap
          have hcap' : (t.length : Int) + 1 ≤ (cap' : Int) := by omega
          have hlk' : (t.length : Int) + 1 ≤ (k : Int) := by omega
          go_wp2_with (first
            | (go_at_call 9; refine (qpop_some hq).mono ?_; rintro e w3 ⟨rfl, q3, o3, z3⟩; have hs3 := hs2 _ o3; have hx0 : w3.cell? ⟨b, off, none⟩ = some (.int .i64 x) := by obtain ⟨b', off', cap2, e, _, hx2⟩ := hs3; cases e; simpa using hx2 0 x rfl)
            | (go_at_call 11; refine (qlen_any q3).mono ?_; rintro e w4 ⟨rfl, rfl⟩)
            | (go_at_call 12; refine (qroom_any q3).mono ?_; rintro e w5 ⟨rfl, n5, rfl⟩))
          go_roundw
          case rel => exact ⟨j + 1, t, by omega, by omega, by go_num, (slice_tail hs3).drewN _, q3.drewN _, below_drewN (qgrow hb o3 f1) _⟩
          case measure => simp [intOf]; omega
      · by_cases hfull : l.length < k
        · have hfull' : (l.length : Int) < (k : Int) := by omega
          have hs2 := fun (w' : World) (o : Only L.has wr w') => hs.queue hq o
          have hc2 := fun (w' : World) (o : Only L.has wr w') => keep' (qgrow hb o f1) hcell
          obtain ⟨b, off, cap', rfl, hcap, hx⟩ := hs
          go_wp2_with (go_at_call 10; refine (qpush_room hq _ hfull).mono ?_; rintro e w3 ⟨rfl, q3, o3, -⟩; have hs3 := hs2 _ o3; have hc3 := hc2 _ o3)
          refine wp_region_rely_tail Grown 8 [.that (fun w' v => w'.ownsRow w3.heap.size 3 1 v 0 [] ∧ ∃ g, v = .slice (some ⟨g, 0, none⟩) 0 0) ?_, .val (.slice (some ⟨b, off, none⟩) l.length cap'),
            .that (fun w' v => w'.ownsRow w3.heap.size 3 1 v l.length (l.map (Value.int .i64)) ∧ v ≠ .slice none 0 0) ?_, .val (.slice (some ⟨ab, aoff, none⟩) n cap), .val (.int .i64 j), .val (.pointer (some ⟨ab, aoff + j, none⟩)), .val (.int .i64 (z j)),
            .that (fun w' v => ∃ g, v = .slice (some ⟨g, 0, none⟩) 1 1 ∧ w'.cell? ⟨g, 0, none⟩ = some (.int .i64 (z j))) ?_] (by kernel_rfl) Grown.refl Grown.trans (by decide) (by kernel_rfl) (by kernel_rfl) (by kernel_rfl) (by kernel_rfl) (by kernel_rfl) (by kernel_rfl) ?_
          · exact fun x y v hxy h => ⟨h.1.kept (hxy.by none) (by cases v.ownBlock <;> simp), h.2⟩
          · exact fun x y v hxy h => ⟨h.1.kept (hxy.by none) (by cases v.ownBlock <;> simp), h.2⟩
          · exact fun x y v hxy ⟨g, h1, h2⟩ => ⟨g, h1, keep' hxy h2⟩
          · simp only [List.take_succ_cons, List.take_zero, relyAll, Act.put, List.setIfInBounds_toArray, List.set_cons_zero, List.set_cons_succ]
            refine ⟨?_, fun v0 => ⟨?_, ?_, fun v2 => ⟨?_, ?_, ?_, ?_, ?_, fun v7 => ?_⟩⟩⟩
            · intro w' hg _
              refine Or.inl ⟨rfl, ?_⟩
              go_simp
              exact ⟨grow_alloc (Below.refl _ _) _, ⟨rfl, .inr ⟨_, 0, #[], rfl, hg.size, heap_alloc_new _ _, Nat.le_refl _, Nat.zero_le _, rfl, rfl⟩⟩, _, rfl⟩
            · intro w' hg _
              refine Or.inl ⟨rfl, ?_⟩
              go_simp
              exact ⟨Grown.refl _, rfl⟩
            · intro w' hg hf
              refine Or.inl ⟨rfl, ?_⟩
              have f0 := hf.1 (by kernel_rfl)
              clear hf
              obtain ⟨v, w4, hr, ho, hne, hgr⟩ := append_copy f0.1 f0.2 (hs3.grown (Grown.trans _ _ _ (Grown.drew w3) hg)) (by omega) hg.size 22
              exact rely_append (.tmp 98) (.tmp 99) rfl rfl rfl hr hgr ⟨ho, hne⟩
            · intro w' hg _
              refine Or.inl ⟨rfl, ?_⟩
              go_simp
              exact ⟨Grown.refl _, rfl⟩
            · intro w' hg _
              refine Or.inl ⟨rfl, ?_⟩
              go_simp
              exact ⟨Grown.refl _, rfl⟩
            · intro w' hg _
              refine Or.inl ⟨rfl, ?_⟩
              go_simp
              exact ⟨Grown.refl _, rfl⟩
            · intro w' hg _
              refine Or.inl ⟨rfl, ?_⟩
              have hc4 := keep' (Grown.trans _ _ _ (Grown.drew w3) hg) hc3
              go_simp
              exact ⟨Grown.refl _, rfl⟩
            · intro w' hg _
              refine Or.inl ⟨rfl, ?_⟩
              go_simp
              exact ⟨grow_alloc (Below.refl _ _) _, _, rfl, by simp⟩
            · intro w' hg hf
              obtain ⟨⟨g7, rfl, hc7⟩, ⟨hown, hnn⟩, _⟩ := hf
              obtain ⟨i0, hi, hz0, hz1, hz2⟩ := info_parts Try.infoI3
              have hsz : w3.heap.size ≤ w'.heap.size := hg.size
              have hq4 := q3.below (Grown.trans _ _ _ (Grown.drew w3) hg)
              have hb4 := grow (qgrow hb o3 f1) (Grown.trans _ _ _ (Grown.drew w3) hg)
              have hrow : ∀ g, v2.ownBlock = some g → w3.heap.size ≤ g := by
                intro g hg2
                rcases hown.2 with ⟨h', _⟩ | ⟨g', cap2, cur, h', hge, _⟩
                · exact absurd h' hnn
                · subst h'; cases hg2; exact hge
              simp only [List.drop_succ_cons, List.drop_zero]
              refine wpList_append_own _ rfl (.tmp 100) (.tmp 105) 22 rfl w3.heap.size 3 i0 (.int .i64 0) 1 8 Try.underlying22 hi hz0 hz1 hz2 rfl (by decide) _ _ _ rfl hown ⟨g7, 0, none⟩ 1 1 [.int .i64 (z j)] rfl rfl (news1 hc7) (by simp [Value.oneCell']) (by unfold maxLen; omega) (by omega) hsz ?_
              intro v5 w5 hown5 hgrow hnil
              have hgrow' : w'.grownBy w5 v2.ownBlock := hgrow
              clear hgrow
              have ho5 : Only (fun k => w3.heap.size ≤ k) w' w5 := ⟨hgrow'.os, hgrow'.tape, hgrow'.output, hgrow'.size, fun k hk hs => hgrow'.block k hk (fun e => hs (hrow k e.symm))⟩
              have q5 := hq4.only ho5 (by have := q3.ltp; omega) (by have := q3.ltc; omega)
              have b5 : Below w.heap.size w w5 := hb4.trans (ho5.below hb4.size (fun k hk hs => by have := (qgrow hb o3 f1).size; omega))
              have s5 : SliceOf w5 v5 (l ++ [z j]) := SliceOf.own (base := w3.heap.size) (by simpa using hown5) (fun e => by have := (hnil.1 e).2; omega)
              clear hnil hown5 hgrow' ho5 hq4 hb4 hown hrow hc7 hnn
              have s6 := s5
              obtain ⟨b5', off5, cap5, rfl, hcap5, hx5⟩ := s5
              have hlen5 : (l ++ [z j]).length = l.length + 1 := by simp
              have hlk' : (l.length : Int) + 1 ≤ (k : Int) := by omega
              go_wp2_with (first
                | (go_at_call 11; refine (qlen_any q5).mono ?_; rintro e w6 ⟨rfl, rfl⟩)
                | (go_at_call 12; refine (qroom_any q5).mono ?_; rintro e w7 ⟨rfl, n5, rfl⟩))
              rw [hlen5] at s6
              go_roundw
              case rel => exact ⟨j + 1, l ++ [z j], by omega, by omega, by go_num, s6.drewN _, q5.drewN _, below_drewN b5 _⟩
              case measure => simp [intOf]; omega
        · have hlen : l.length = k := by omega
          have hfull' : ¬ (l.length : Int) < (k : Int) := by omega
          obtain ⟨b, off, cap', rfl, hcap, hx⟩ := hs
          have hs1 : SliceOf wr (.slice (some ⟨b, off, none⟩) k cap') l := ⟨b, off, cap', by rw [hlen], hcap, hx⟩
          go_wp2_with (first
            | (go_at_call 10; refine (qpush_full hq _ hlen).mono ?_; rintro e w3 ⟨rfl, rfl⟩)
            | (go_at_call 11; refine (qlen_any hq).mono ?_; rintro e w4 ⟨rfl, rfl⟩)
            | (go_at_call 12; refine (qroom_any hq).mono ?_; rintro e w5 ⟨rfl, n5, rfl⟩))
          go_roundw
          case rel => exact ⟨j + 1, l, by omega, by omega, by go_num, hs1.drewN _, hq.drewN _, below_drewN hb _⟩
          case measure => simp [intOf]; omega
    · by_cases h1 : j < n
      · have h2 : ¬ j < 100 := by omega
        clear hend
        go_wp2
        go_ret
        exact ⟨rfl, hb⟩
      · clear hend
        go_wp2
        go_ret
        exact ⟨rfl, hb⟩

end Go.Proofs.Ytefgbmednphebaa
