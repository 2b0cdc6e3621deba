/- One who makes an object, beside others: a step of the program is a step of what is told without it. -/
import Derived.Test.YtocmkmeikcejjaaAllocTown
namespace Go.Proofs.Ytocmkmeikcejjaa
open Go.RowKit

/-- what a step of one who makes an object leaves -/
structure Did (w : World) (L : Loc) (s : Mm) (b o : Nat) (T : TypeId) (cs : Array Value) (t n k m σ κ : Nat) (z : Int) (own : Bool) (who : Int) (α : Al) (q' : Q) (α' : Al) (w' : World) (s' : Mm) (cs' : Array Value) (a' : AV) : Prop where
  mm : MemAt w' L s'
  tw : Town t n k m s' (σ + 1) q'
  al : AlAt w' b o T cs' a'
  is : AlIs z own κ α' a'
  good : α'.good t n k m κ (σ + 1) q'
  same : Same o 26 cs cs'
  only : Only (L.and b) w w'
  st : ∃ v, s' = (s.by who).step (α.at t n κ) v

theorem tk_fate (τ : Tk) : (τ.over = false) ∨ (∃ x, τ = .won x) ∨ τ = .none := by
  cases τ with
  | won x => exact Or.inr (Or.inl ⟨x, rfl⟩)
  | none => exact Or.inr (Or.inr rfl)
  | _ => exact Or.inl rfl
theorem pl_fate (τ : Pl) : (τ.over = false) ∨ (∃ a i, τ = .won a i) ∨ τ = .none := by
  cases τ with
  | won a i => exact Or.inr (Or.inl ⟨a, i, rfl⟩)
  | none => exact Or.inr (Or.inr rfl)
  | _ => exact Or.inl rfl

theorem alTake_on {q : Q} {σ c' : Nat} {F' : List Nat} {τ' : Tk} (h : τ'.over = false) : alTake q σ (c', F', τ') = ({ q with c := c', F := F' }, .take τ') := by
  cases τ' with
  | won => cases h
  | none => cases h
  | _ => rfl
theorem alPlace_on {q : Q} {x g : Nat} {y' : Y} {τ' : Pl} (h : τ'.over = false) : alPlace q x g (y', τ') = ({ q with y := y' }, .place x g τ') := by
  cases τ' with
  | won => cases h
  | none => cases h
  | _ => rfl
theorem alGive_on {q : Q} {σ x g c' : Nat} {lk' : Nat → Nat} {F' : List Nat} {γ' : Gv} (h : γ'.done = false) : alGive q σ x g (c', lk', F', γ') = ({ q with c := c', lk := lk', F := F' }, .give x g γ') := by
  cases γ' with
  | over => cases h
  | _ => rfl
theorem Gv.is_over {γ : Gv} (h : γ.done = true) : γ = .over := by
  cases γ with
  | over => rfl
  | _ => cases h

section
variable {w : World} {L : Loc} {s : Mm} {b o : Nat} {T : TypeId} {cs : Array Value} {a : AV} {t n k m σ κ : Nat} {g p r : Int} {z : Int} {own : Bool} {q : Q}

set_option maxHeartbeats 400000 in
theorem alloc_step (h : MemAt w L s) (hb : ¬ L.has b) (hT : Town t n k m s σ q) (hG : Good t n k m g p r) (hσ : σ < 1000000) (fz : Fit z) (hz : classOf z = κ) (hκ : κ < 4) (α : Al) (hi : AlAt w b o T cs a) (his : AlIs z own κ α a) (hg : α.good t n k m κ σ q) (ho : α.over? = false) (who : Int) (q' : Q) (α' : Al) (hq : alTurn t n k m κ z own σ q α = (q', α')) (d : Bool) (hd : α'.over? = d) :
    Calls Try.prog 14 #[.pointer (some ⟨b, o, none⟩), .agg #[.int .i64 t, .int .i64 n, .int .i64 k, .int .i64 m, .int .i64 g, .int .i64 p, .int .i64 r, .pointer (some ⟨L.p, 0, none⟩), .int .i64 who]] w fun e w' => e = .returned (.bool d) ∧ ∃ s' cs' a', Did w L s b o T cs t n k m σ κ z own who α q' α' w' s' cs' a' := by
  have hG' := hG
  obtain ⟨t0, t1, n0, n1, k0, k1, m0, m1, g0, g1, p0, p1, r0, r1⟩ := hG
  have hmk : k * m ≤ 64 * 256 := Nat.mul_le_mul k1 m1
  have har := hG'.arena
  have hlen := hT.len
  have hbig := hT.pile.big
  have hst : wrap64 (s.steps + 1) = ((σ + 1 : Nat) : Int) := by rw [hT.pile.st]; exact hT.pile.wrapS hσ
  obtain ⟨inx, isz, iow, itk, ipl, igv, isl, isp, icm⟩ := his
  have hK : classOf a.sz = κ := by rw [isz]; exact hz
  have hdn := Al.nx_over α'
  rw [hd] at hdn
  cases α with
  | over E H st => cases ho
  | take τ =>
    obtain ⟨gt, go⟩ := hg
    obtain ⟨c', F', τ', ht⟩ : ∃ c' F' τ', tkTurn q.c q.lk q.F τ = (c', F', τ') := ⟨_, _, _, rfl⟩
    have hat := Tk.at_in (t := t) gt
    simp only [alTurn, ht] at hq
    rcases tk_fate τ' with hf | ⟨x, hf⟩ | hf
    · rw [alTake_on hf] at hq
      obtain ⟨rfl, rfl⟩ := Prod.mk.inj hq
      refine (astep_take h hi who inx _ d ?_ (fun w1 m1 i1 => atake_on m1 hb i1 who hT.pile hσ t1 κ hK τ itk gt go c' F' τ' ht hf)).mono ?_
      · rintro s' a' ⟨_, _, _, l, _, rfl⟩
        rw [← hdn]
        show (a.nx == 8) = _
        rw [inx]; rfl
      · rintro e w' ⟨rfl, s', cs', a', m', o', i', sm, p', ⟨v, rfl⟩, g', l, hl, rfl⟩
        exact ⟨rfl, _, cs', _, m', hT.slots hσ who _ v hat p', i', ⟨inx, isz, iow, hl, ipl, igv, isl, isp, icm⟩, ⟨g', hf⟩, sm, o', v, rfl⟩
    · subst hf
      have hq' : ({ q with c := c', F := F' }, Al.ask x) = (q', α') := hq
      obtain ⟨rfl, rfl⟩ := Prod.mk.inj hq'
      have hxF : x ∉ F' := by
        cases τ with
        | idle =>
          simp only [tkTurn] at ht
          split at ht <;> cases ht
        | saw => cases ht
        | lnk y c0 q0 =>
          simp only [tkTurn] at ht
          split at ht
          · rename_i e
            obtain ⟨_, rfl, hyx⟩ : _ ∧ q.F.tail = F' ∧ Tk.won y = Tk.won x := by simpa using ht
            cases hyx
            have hh := (gt.2.2.2 e).1
            have nd := hT.pile.nd
            intro hm
            cases hF : q.F with
            | nil => rw [hF] at hh; simp [Go.Proofs.Ytocmkmeikcejjaa.hd] at hh
            | cons u F2 =>
              rw [hF] at hh hm nd
              have : u = x := by simpa [Go.Proofs.Ytocmkmeikcejjaa.hd] using hh
              subst this
              exact (List.nodup_cons.1 nd).1 hm
          · cases ht
        | won => cases go
        | none => cases go
      refine (astep_take h hi who inx _ d ?_ (fun w1 m1 i1 => atake_won m1 hb i1 who hT.pile hσ t1 κ hK τ itk gt go c' F' _ ht x rfl)).mono ?_
      · rintro s' a' ⟨_, _, _, l, _, rfl⟩
        rw [← hdn]; rfl
      · rintro e w' ⟨rfl, s', cs', a', m', o', i', sm, p', ⟨v, rfl⟩, hx, l, hl, rfl⟩
        exact ⟨rfl, _, cs', _, m', hT.slots hσ who _ v hat p', i', ⟨rfl, isz, iow, trivial, trivial, trivial, rfl, trivial, icm⟩, ⟨hx, hxF⟩, sm, o', v, rfl⟩
    · subst hf
      have hq' : ({ q with c := c', F := F' }, Al.over 7 0 (σ + 1)) = (q', α') := hq
      obtain ⟨rfl, rfl⟩ := Prod.mk.inj hq'
      refine (astep_take h hi who inx _ d ?_ (fun w1 m1 i1 => atake_none m1 hb i1 who hT.pile hσ t1 κ hK τ itk gt go c' F' _ ht rfl)).mono ?_
      · rintro s' a' ⟨_, _, l, _, rfl⟩
        rw [← hdn]; rfl
      · rintro e w' ⟨rfl, s', cs', a', m', o', i', sm, p', ⟨v, rfl⟩, l, hl, rfl⟩
        exact ⟨rfl, _, cs', _, m', hT.slots hσ who _ v hat p', i', ⟨rfl, isz, iow, trivial, trivial, trivial, trivial, trivial, rfl, rfl, rfl, rfl⟩, trivial, sm, o', v, rfl⟩
  | ask x =>
    obtain ⟨hx, hxF⟩ := hg
    have hq' : (q, Al.place x (genOf (q.sw x)) .see) = (q', α') := hq
    obtain ⟨rfl, rfl⟩ := Prod.mk.inj hq'
    obtain ⟨v0, v1⟩ := hT.swb x hx
    refine (astep_ask h hi who inx _ d ?_ (fun w1 m1 i1 => aask m1 hb i1 who har x isl (by omega) (by omega) (q.sw x) (hT.swv x hx) v0 v1 (genOf (q.sw x)) (genOf_is _) κ hK)).mono ?_
    · rintro s' a' ⟨_, rfl⟩
      rw [← hdn]; rfl
    · rintro e w' ⟨rfl, s', cs', a', m', o', i', sm, rfl, rfl⟩
      exact ⟨rfl, _, cs', _, m', hT.same hσ who _, i', ⟨rfl, isz, iow, trivial, ⟨_, _, _, _, _, rfl⟩, trivial, ⟨isl, rfl⟩, trivial, icm⟩, ⟨hx, hxF, genOf_le _, trivial, rfl⟩, sm, o', _, rfl⟩
  | place x G τ =>
    obtain ⟨hx, hxF, hGb, gt, go⟩ := hg
    obtain ⟨y', τ', ht⟩ : ∃ y' τ', turn k m κ (base t n k m) q.y τ = (y', τ') := ⟨_, _, rfl⟩
    have hat := Pl.at_in (t := t) (n := n) gt
    simp only [alTurn, ht] at hq
    rcases pl_fate τ' with hf | ⟨A, i, hf⟩ | hf
    · rw [alPlace_on hf] at hq
      obtain ⟨rfl, rfl⟩ := Prod.mk.inj hq
      refine (astep_words h hi who inx _ d ?_ (fun w1 m1 i1 => awords_on m1 hb i1 who hT.yard hG' hσ hκ τ ipl gt go y' τ' ht hf)).mono ?_
      · rintro s' a' ⟨_, _, _, l, _, rfl⟩
        rw [← hdn]
        show (a.nx == 8) = _
        rw [inx]; rfl
      · rintro e w' ⟨rfl, s', cs', a', m', o', i', sm, p', ⟨v, rfl⟩, g', l, hl, rfl⟩
        exact ⟨rfl, _, cs', _, m', hT.chunks hσ who hκ _ v hat p', i', ⟨inx, isz, iow, trivial, hl, trivial, isl, trivial, icm⟩, ⟨hx, hxF, hGb, g', hf⟩, sm, o', v, rfl⟩
    · subst hf
      have hq' : ({ q with y := y' }, Al.count x G A i) = (q', α') := hq
      obtain ⟨rfl, rfl⟩ := Prod.mk.inj hq'
      obtain ⟨c, -, hik, -, rfl, hu, -⟩ := turn_won gt go ht
      have hin := base_in (t := t) (n := n) hik hu
      have hr := room_bd κ
      refine (astep_words h hi who inx _ d ?_ (fun w1 m1 i1 => awords_won m1 hb i1 who hT.yard hG' hσ hκ τ ipl gt go y' _ ht _ i rfl)).mono ?_
      · rintro s' a' ⟨_, _, l, _, rfl⟩
        rw [← hdn]; rfl
      · rintro e w' ⟨rfl, s', cs', a', m', o', i', sm, p', ⟨v, rfl⟩, l, hl, rfl⟩
        exact ⟨rfl, _, cs', _, m', hT.chunks hσ who hκ _ v hat p', i', ⟨rfl, isz, iow, trivial, trivial, trivial, isl, ⟨rfl, rfl⟩, icm⟩, ⟨hx, hxF, hGb, hik, hin.1, by omega⟩, sm, o', v, rfl⟩
    · subst hf
      have hq' : ({ q with y := y' }, Al.give x G .idle) = (q', α') := hq
      obtain ⟨rfl, rfl⟩ := Prod.mk.inj hq'
      refine (astep_words h hi who inx _ d ?_ (fun w1 m1 i1 => awords_none m1 hb i1 who hT.yard hG' hσ hκ τ ipl gt go y' _ ht x isl.1 rfl)).mono ?_
      · rintro s' a' ⟨_, _, l, _, rfl⟩
        rw [← hdn]; rfl
      · rintro e w' ⟨rfl, s', cs', a', m', o', i', sm, p', ⟨v, rfl⟩, l, hl, rfl⟩
        exact ⟨rfl, _, cs', _, m', hT.chunks hσ who hκ _ v hat p', i', ⟨rfl, isz, iow, trivial, trivial, ⟨_, rfl⟩, isl, trivial, icm⟩, ⟨hx, hxF, trivial, rfl⟩, sm, o', v, rfl⟩
  | count x G A i =>
    obtain ⟨hx, hxF, hGb, hik, ha0, ha1⟩ := hg
    have hq' : ({ q with lv := upd q.lv i (q.lv i + room κ) }, Al.head x G A i) = (q', α') := hq
    obtain ⟨rfl, rfl⟩ := Prod.mk.inj hq'
    refine (astep_count h hi who inx _ d ?_ (fun w1 m1 i1 => acount m1 hb i1 who har n1 t1 i isp.2 (by omega) (by omega) κ hκ hK)).mono ?_
    · rintro s' a' ⟨_, rfl⟩
      rw [← hdn]; rfl
    · rintro e w' ⟨rfl, s', cs', a', m', o', i', sm, rfl, rfl⟩
      exact ⟨rfl, _, cs', _, m', hT.counts hσ who hik (room_bd κ).2, i', ⟨rfl, isz, iow, trivial, trivial, trivial, isl, isp, icm⟩, ⟨hx, hxF, hGb, hik, ha0, ha1⟩, sm, o', _, rfl⟩
  | head x G A i =>
    obtain ⟨hx, hxF, hGb, hik, ha0, ha1⟩ := hg
    have hq' : ({ q with dw := upd q.dw A (packOw 1 z x G own) }, Al.shw x G A i) = (q', α') := hq
    obtain ⟨rfl, rfl⟩ := Prod.mk.inj hq'
    refine (astep_head h hb hi who inx z fz isz x G A isl.1 isl.2 isp.1 own iow (by omega) (by omega) (by omega)).mono ?_
    rintro e w' ⟨rfl, s', cs', a', m', o', i', sm, rfl, rfl⟩
    exact ⟨by rw [← hd]; rfl, _, cs', _, m', hT.lays hσ who ha0 _, i', ⟨rfl, isz, iow, trivial, trivial, trivial, isl, isp, icm⟩, ⟨hx, hxF, hGb, hik, ha0, ha1⟩, sm, o', _, rfl⟩
  | shw x G A i =>
    obtain ⟨hx, hxF, hGb, hik, ha0, ha1⟩ := hg
    have hq' : ({ q with sw := upd q.sw x (packS 1 A G 0) }, Al.ready x G A i (σ + 1)) = (q', α') := hq
    obtain ⟨rfl, rfl⟩ := Prod.mk.inj hq'
    have hbd := packS_bd 1 A G 0
    refine (astep_show h hi who inx _ d ?_ (fun w1 m1 i1 => ashow m1 hb i1 who har x G A isl.1 isl.2 isp.1 (by omega) (by omega) (by omega) (by omega) (σ + 1) hst)).mono ?_
    · rintro s' a' ⟨_, rfl⟩
      rw [← hdn]; rfl
    · rintro e w' ⟨rfl, s', cs', a', m', o', i', sm, rfl, rfl⟩
      exact ⟨rfl, _, cs', _, m', hT.shows hσ who hx _ hbd.1 (Int.le_trans hbd.2 (by decide)), i', ⟨rfl, isz, iow, trivial, trivial, trivial, isl, isp, ⟨icm.1, rfl, icm.2.2.1, rfl⟩⟩, ⟨hx, hxF, hGb, hik, ha0, ha1⟩, sm, o', _, rfl⟩
  | ready x G A i st =>
    obtain ⟨hx, hxF, hGb, hik, ha0, ha1⟩ := hg
    have hq' : ({ q with dw := upd q.dw A (packOw 2 z x G own) }, Al.over 0 (packH x G) st) = (q', α') := hq
    obtain ⟨rfl, rfl⟩ := Prod.mk.inj hq'
    refine (astep_ready h hb hi who inx z fz isz x G A isl.1 isl.2 isp.1 own iow (by omega) (by omega) (by omega)).mono ?_
    rintro e w' ⟨rfl, s', cs', a', m', o', i', sm, rfl, rfl⟩
    exact ⟨by rw [← hd]; rfl, _, cs', _, m', hT.lays hσ who ha0 _, i', ⟨rfl, isz, iow, trivial, trivial, trivial, trivial, trivial, icm⟩, trivial, sm, o', _, rfl⟩
  | give x G γ =>
    obtain ⟨hx, hxF, gt, go⟩ := hg
    obtain ⟨c', lk', F', γ', ht⟩ : ∃ c' lk' F' γ', gvTurn q.c q.lk q.F x γ = (c', lk', F', γ') := ⟨_, _, _, _, rfl⟩
    have hat := Gv.at_in (t := t) hx γ
    simp only [alTurn, ht] at hq
    cases hf : γ'.done with
    | false =>
      rw [alGive_on hf] at hq
      obtain ⟨rfl, rfl⟩ := Prod.mk.inj hq
      have hFF : F' = q.F := by
        cases γ with
        | idle => obtain ⟨_, _, rfl, _⟩ : q.c = c' ∧ q.lk = lk' ∧ q.F = F' ∧ _ = γ' := by simpa [gvTurn] using ht
                  rfl
        | saw hh cc => obtain ⟨_, _, rfl, _⟩ : q.c = c' ∧ _ = lk' ∧ q.F = F' ∧ _ = γ' := by simpa [gvTurn] using ht
                       rfl
        | lnk hh cc =>
          simp only [gvTurn] at ht
          split at ht
          · obtain ⟨_, _, _, rfl⟩ : _ ∧ _ ∧ _ ∧ Gv.over = γ' := by simpa using ht
            cases hf
          · obtain ⟨_, _, rfl, _⟩ : q.c = c' ∧ q.lk = lk' ∧ q.F = F' ∧ _ = γ' := by simpa using ht
            rfl
        | over => cases go
      refine (astep_give h hi who inx _ d ?_ (fun w1 m1 i1 => agive_on m1 hb i1 who hT.pile hσ t1 hx hxF γ igv gt go c' lk' F' γ' ht hf)).mono ?_
      · rintro s' a' ⟨_, _, _, l, _, rfl⟩
        rw [← hdn]
        show (a.nx == 8) = _
        rw [inx]; rfl
      · rintro e w' ⟨rfl, s', cs', a', m', o', i', sm, p', ⟨v, rfl⟩, g', l, hl, rfl⟩
        exact ⟨rfl, _, cs', _, m', hT.slots hσ who _ v hat p', i', ⟨inx, isz, iow, trivial, trivial, hl, isl, trivial, icm⟩, ⟨hx, (by rw [← hFF] at hxF; exact hxF), g', hf⟩, sm, o', v, rfl⟩
    | true =>
      have := Gv.is_over hf
      subst this
      have hq' : ({ q with c := c', lk := lk', F := F' }, Al.over 6 0 (σ + 1)) = (q', α') := hq
      obtain ⟨rfl, rfl⟩ := Prod.mk.inj hq'
      refine (astep_give h hi who inx _ d ?_ (fun w1 m1 i1 => agive_over m1 hb i1 who hT.pile hσ t1 hx hxF γ igv gt go c' lk' F' _ ht rfl)).mono ?_
      · rintro s' a' ⟨_, _, l, _, rfl⟩
        rw [← hdn]; rfl
      · rintro e w' ⟨rfl, s', cs', a', m', o', i', sm, p', ⟨v, rfl⟩, l, hl, rfl⟩
        exact ⟨rfl, _, cs', _, m', hT.slots hσ who _ v hat p', i', ⟨rfl, isz, iow, trivial, trivial, trivial, trivial, trivial, rfl, rfl, rfl, rfl⟩, trivial, sm, o', v, rfl⟩

end

end Go.Proofs.Ytocmkmeikcejjaa
