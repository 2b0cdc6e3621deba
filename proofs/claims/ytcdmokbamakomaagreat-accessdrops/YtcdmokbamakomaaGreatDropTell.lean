/- One who lets an object go tells when it took effect: Stamp is a step of its own. -/
import Derived.Test.YtcdmokbamakomaaGreatDropScene
namespace Go.Proofs.YtcdmokbamakomaaGreat
open Go.RowKit

/-- what becomes of Stamp in a step -/
def Tl (t x : Nat) (s' : Mm) (a a' : DV) : Dp → Dp → Prop
  | .fin _ _ _, .count _ _ => a'.St = s'.wn (6 + t + x * 2)
  | .count _ _, _ => a'.St = a.St
  | .give _, _ => a'.St = a.St
  | _, _ => True

/-- what is known of Stamp -/
def TlI (σ j : Nat) (St : Int) : Dp → Prop
  | .count _ _ => (σ : Int) < St ∧ St ≤ (σ : Int) + j
  | .give _ => (σ : Int) < St ∧ St ≤ (σ : Int) + j
  | .over E => E = 0 → (σ : Int) < St ∧ St ≤ (σ : Int) + j
  | _ => True

/-- what a step leaves -/
structure DDidT (w : World) (L : Loc) (s : Mm) (a : DV) (b o : Nat) (T : TypeId) (cs : Array Value) (t n k m σ : Nat) (nu : Int) (own : Bool) (x : Nat) (who : Int) (α : Dp) (q' : Q) (α' : Dp) (w' : World) (s' : Mm) (cs' : Array Value) (a' : DV) : Prop where
  mm : MemAt w' L s'
  tw : Town t n k m s' (σ + 1) q'
  dp : DpAt w' b o T cs' a'
  is : DpIs t n k m nu own x α' a'
  same : Same o 21 cs cs'
  only : Only (L.and b) w w'
  st : ∃ v, s' = (s.by who).step (α.at t n x) v
  rd : α.reads = true → s' = (s.by who).step (α.at t n x) (s.wd (α.at t n x))
  tl : Tl t x s' a a' α α'

section
variable {w : World} {L : Loc} {s : Mm} {b o : Nat} {T : TypeId} {cs : Array Value} {a : DV} {t n k m σ : Nat} {g p r : Int} {q : Q} {nu : Int} {own : Bool}

set_option maxHeartbeats 1000000 in
theorem drop_step_t (h : MemAt w L s) (hb : ¬ L.has b) (hT : Town t n k m s σ q) (hG : Good t n k m g p r) (hσ : σ < 1000000) (hdw : ∀ a, Wd (q.dw a)) {x G : Nat} (hh : HandIs nu x G) (hx : x < n) (α : Dp) (hi : DpAt w b o T cs a) (his : DpIs t n k m nu own x α a) (hg : α.good t n k m x G q) (ho : α.over? = false) (who : Int) (q' : Q) (α' : Dp) (hq : dpTurn t n k m g own x G q α = (q', α')) (d : Bool) (hd : α'.over? = d) :
    Calls Tryz.prog 38 #[.pointer (some ⟨b, o, none⟩), .agg #[.int .i64 t, .int .i64 n, .int .i64 k, .int .i64 m, .int .i64 g, .int .i64 p, .int .i64 r, .pointer (some ⟨L.p, 0, none⟩), .int .i64 who]] w fun e w' => e = .returned (.bool d) ∧ ∃ s' cs' a', DDidT w L s a b o T cs t n k m σ nu own x who α q' α' w' s' cs' a' := by
  have hlen : arenaLen t n k m ≤ s.n := by rw [hT.len]; exact Nat.le_refl _
  have hlen' := hT.len
  have hmk : k * m ≤ 64 * 256 := Nat.mul_le_mul hG.k1 hG.n1
  have hxs : 6 + t + x * 2 < s.n := by omega
  have hst : wrap64 (s.steps + 1) = ((σ + 1 : Nat) : Int) := by rw [hT.pile.st]; exact hT.pile.wrapS hσ
  have hh' := hh
  obtain ⟨inx, inu, iow, isec, ihl, igl, iE, iH, iV⟩ := his
  rw [← inu] at hh
  have hdn := Dp.nx_over α'
  rw [hd] at hdn
  cases α with
  | over => cases ho
  | see =>
    obtain ⟨v, hv⟩ : ∃ v, q.sw x = v := ⟨_, rfl⟩
    have hwv : s.wd (6 + t + x * 2) = v := by rw [hT.swv x hx]; exact hv
    have wv : Wd v := by rw [← hv]; exact hT.swb x hx
    have sl := slotIs v wv
    simp only [dpTurn, hv] at hq
    simp only [Dp.good, hv] at hg
    by_cases hl : (lifeB (v % 8) && decide (genOf v = G)) = true
    · rw [if_pos hl] at hq
      obtain ⟨rfl, rfl⟩ := Prod.mk.inj hq
      rw [Bool.and_eq_true] at hl
      obtain ⟨i, O⟩ := hg hl.1 (of_decide_eq_true hl.2)
      have hl' : (lifeB (v % 8) && ((genOf v : Int) == (G : Int))) = true := by
        rw [hl.1, of_decide_eq_true hl.2]; simp
      refine (dstep_see h hi who hG hlen hh hx inx _ d ?_ (fun w1 m1 i1 => dsee_yes m1 hb i1 who hG hx hxs hwv sl (ci := chunkOf t n k m (adOf v)) rfl hl' (by rw [O.c1]; omega))).mono ?_
      · rintro s' a' ⟨_, rfl⟩
        rw [← hdn]; rfl
      · rintro e w' ⟨rfl, s', cs', a', m', o', i', sm, rfl, rfl⟩
        exact ⟨rfl, _, cs', _, m', hT.same hσ who _, i', ⟨rfl, inu, iow, ⟨rfl, rfl⟩, trivial, trivial, iE, iH, iV⟩, sm, o', ⟨_, rfl⟩, fun _ => rfl, by first | exact trivial | rfl⟩
    · rw [if_neg hl] at hq
      obtain ⟨rfl, rfl⟩ := Prod.mk.inj hq
      have hl' : (lifeB (v % 8) && ((genOf v : Int) == (G : Int))) = false := by
        rw [Bool.not_eq_true] at hl
        rw [← hl]
        congr 1
        rw [Bool.eq_iff_iff]
        simp only [beq_iff_eq, decide_eq_true_eq]
        omega
      refine (dstep_see h hi who hG hlen hh hx inx _ d ?_ (fun w1 m1 i1 => dsee_no m1 hb i1 who hG hx hxs hwv sl (ci := chunkOf t n k m (adOf v)) rfl hl' (by rw [inx]; decide) hst)).mono ?_
      · rintro s' a' ⟨_, rfl⟩
        rw [← hdn]; rfl
      · rintro e w' ⟨rfl, s', cs', a', m', o', i', sm, rfl, rfl⟩
        exact ⟨rfl, _, cs', _, m', hT.same hσ who _, i', ⟨rfl, inu, iow, trivial, trivial, trivial, rfl, rfl, rfl⟩, sm, o', ⟨_, rfl⟩, fun _ => rfl, by first | exact trivial | rfl⟩
  | ask v =>
    obtain ⟨i, O⟩ := hg
    obtain ⟨rfl, ich⟩ := isec
    have sl := slotIs a.se O.wd
    have hin := O.inn
    have hwu : s.wd (adOf a.se) = q.dw (adOf a.se) := hT.dwv _ hin.1
    have hd1 := headIs _ (hdw (adOf a.se))
    have hq' : (q, dpAsk own a.se (q.dw (adOf a.se))) = (q', α') := hq
    obtain ⟨rfl, hα⟩ := Prod.mk.inj hq'
    have hnA : adOf a.se < s.n := by omega
    by_cases hw : (ownOf (q.dw (adOf a.se)) == own) = true
    · have hwo : (ownOf (q.dw (adOf a.se)) == a.own) = true := by rw [iow]; exact hw
      simp only [dpAsk, hw, if_true] at hα
      by_cases h4 : a.se % 8 = 4
      · rw [if_pos h4] at hα
        subst hα
        refine (dstep_ask h hi who hG hlen hh hx inx _ d ?_ (fun w1 m1 i1 => dask_help m1 hb i1 who sl hnA hwu hd1 hwo h4)).mono ?_
        · rintro s' a' ⟨_, rfl⟩
          rw [← hdn]; rfl
        · rintro e w' ⟨rfl, s', cs', a', m', o', i', sm, rfl, rfl⟩
          exact ⟨rfl, _, cs', _, m', hT.same hσ who _, i', ⟨rfl, inu, iow, trivial, ⟨0, rfl⟩, trivial, iE, iH, iV⟩, sm, o', ⟨_, rfl⟩, fun _ => rfl, by first | exact trivial | rfl⟩
      · rw [if_neg h4] at hα
        subst hα
        refine (dstep_ask h hi who hG hlen hh hx inx _ d ?_ (fun w1 m1 i1 => dask_go m1 hb i1 who sl hnA hwu hd1 hwo h4)).mono ?_
        · rintro s' a' ⟨_, rfl⟩
          rw [← hdn]; rfl
        · rintro e w' ⟨rfl, s', cs', a', m', o', i', sm, rfl, rfl⟩
          exact ⟨rfl, _, cs', _, m', hT.same hσ who _, i', ⟨rfl, inu, iow, ⟨rfl, ich, rfl⟩, trivial, trivial, iE, iH, iV⟩, sm, o', ⟨_, rfl⟩, fun _ => rfl, by first | exact trivial | rfl⟩
    · have hw' : (ownOf (q.dw (adOf a.se)) == own) = false := by simpa using hw
      have hwo : (ownOf (q.dw (adOf a.se)) == a.own) = false := by rw [iow]; exact hw'
      simp only [dpAsk, hw'] at hα
      subst hα
      refine (dstep_ask h hi who hG hlen hh hx inx _ d ?_ (fun w1 m1 i1 => dask_no m1 hb i1 who sl hnA hwu hd1 (by rw [inx]; show (1 : Int) < 5; decide) hwo hst)).mono ?_
      · rintro s' a' ⟨_, rfl⟩
        rw [← hdn]; rfl
      · rintro e w' ⟨rfl, s', cs', a', m', o', i', sm, rfl, rfl⟩
        exact ⟨rfl, _, cs', _, m', hT.same hσ who _, i', ⟨rfl, inu, iow, trivial, trivial, trivial, rfl, rfl, rfl⟩, sm, o', ⟨_, rfl⟩, fun _ => rfl, by first | exact trivial | rfl⟩
  | mark v Z =>
    obtain ⟨i, O⟩ := hg
    obtain ⟨rfl, ich, isz⟩ := isec
    have sl := slotIs a.se O.wd
    by_cases hw : q.sw x = a.se
    · have hw' : s.wd (6 + t + x * 2) = a.se := by rw [hT.swv x hx]; exact hw
      simp only [dpTurn, hw, if_true] at hq
      obtain ⟨rfl, rfl⟩ := Prod.mk.inj hq
      refine (dstep_mark h hi who hG hlen hh hx inx _ d ?_ (fun w1 m1 i1 => dmark_yes m1 hb i1 who hG hx hxs isz sl (decide_eq_true hw'))).mono ?_
      · rintro s' a' ⟨_, rfl⟩
        rw [← hdn]; rfl
      · rintro e w' ⟨rfl, s', cs', a', m', o', i', sm, rfl, rfl⟩
        rw [cas_hit hw'] at m'
        refine ⟨rfl, _, cs', _, m', hT.shows hσ who hx _ (packS_wd _ _ _ _).1 (packS_wd _ _ _ _).2, i', ⟨rfl, inu, iow, ⟨?_, isz⟩, ⟨0, rfl⟩, trivial, iE, iH, iV⟩, sm, o', ⟨_, rfl⟩, (fun h => by cases h), by first | exact trivial | rfl⟩
        show a.ch = _
        rw [ich, O.c1]; simp
    · have hw' : s.wd (6 + t + x * 2) ≠ a.se := by rw [hT.swv x hx]; exact hw
      simp only [dpTurn, hw, if_false] at hq
      obtain ⟨rfl, rfl⟩ := Prod.mk.inj hq
      refine (dstep_mark h hi who hG hlen hh hx inx _ d ?_ (fun w1 m1 i1 => dmark_no m1 hb i1 who hG hx hxs sl (decide_eq_false hw'))).mono ?_
      · rintro s' a' ⟨_, rfl⟩
        rw [← hdn]; rfl
      · rintro e w' ⟨rfl, s', cs', a', m', o', i', sm, rfl, rfl⟩
        rw [cas_miss hw'] at m'
        exact ⟨rfl, _, cs', _, m', hT.same hσ who _, i', ⟨rfl, inu, iow, trivial, trivial, trivial, iE, iH, iV⟩, sm, o', ⟨_, rfl⟩, (fun h => by cases h), by first | exact trivial | rfl⟩
  | help η =>
    obtain ⟨gη, oη⟩ := hg
    obtain ⟨q1, η1, ht⟩ : ∃ q1 η1, hpTurn g x q η = (q1, η1) := ⟨_, _, rfl⟩
    simp only [dpTurn, ht] at hq
    cases hf : η1.over? with
    | false =>
      rw [dpHelp_on hf] at hq
      obtain ⟨rfl, rfl⟩ := Prod.mk.inj hq
      obtain rfl : false = d := hd
      refine (dstep_help_on h hi who hG hlen hh hx inx _ (fun s' l' P => Hp.cells_len P.2.1) (fun w1 m1 i1 => help_step m1 hb hT hG hσ hdw hx η i1 ihl gη oη who _ _ ht false hf)).mono ?_
      rintro e w' ⟨rfl, s', cs', a', m', o', i', sm, l', ⟨t', c', st'⟩, rfl⟩
      exact ⟨rfl, _, cs', _, m', t', i', ⟨inx, inu, iow, trivial, c', trivial, iE, iH, iV⟩, sm, o', st', (fun h => by cases h), by first | exact trivial | rfl⟩
    | true =>
      obtain ⟨wn, rfl⟩ := Hp.is_over hf
      have hq' : (q1, Dp.see) = (q', α') := hq
      obtain ⟨rfl, rfl⟩ := Prod.mk.inj hq'
      obtain rfl : false = d := hd
      refine (dstep_help_done h hi who hG hlen hh hb hx inx _ (fun s' l' P => Hp.cells_len P.2.1) (fun w1 m1 i1 => help_step m1 hb hT hG hσ hdw hx η i1 ihl gη oη who _ _ ht true hf)).mono ?_
      rintro e w' ⟨rfl, s', cs', a', m', o', i', sm, l', ⟨t', c', st'⟩, rfl⟩
      exact ⟨rfl, _, cs', _, m', t', i', ⟨rfl, inu, iow, trivial, trivial, trivial, iE, iH, iV⟩, sm, o', st', (fun h => by cases h), by first | exact trivial | rfl⟩
  | fin Z i η =>
    obtain ⟨gη, oη⟩ := hg
    obtain ⟨q1, η1, ht⟩ : ∃ q1 η1, hpTurn g x q η = (q1, η1) := ⟨_, _, rfl⟩
    simp only [dpTurn, ht] at hq
    cases hf : η1.over? with
    | false =>
      rw [dpFin_on hf] at hq
      obtain ⟨rfl, rfl⟩ := Prod.mk.inj hq
      refine (dstep_end h hi who hG hlen hh hx inx _ d ?_ (fun w1 m1 i1 => dend_on m1 i1 who _ (fun s' l' P => Hp.cells_len P.2.1) (fun w2 m2 i2 => help_step m2 hb hT hG hσ hdw hx η i2 ihl gη oη who _ _ ht false hf))).mono ?_
      · rintro s' a' ⟨l', _, rfl⟩
        rw [← hdn]
        show (a.nx == 7) = _
        rw [inx]; rfl
      · rintro e w' ⟨rfl, s', cs', a', m', o', i', sm, l', ⟨t', c', st'⟩, rfl⟩
        exact ⟨rfl, _, cs', _, m', t', i', ⟨inx, inu, iow, isec, c', trivial, iE, iH, iV⟩, sm, o', st', (fun h => by cases h), by first | exact trivial | rfl⟩
    | true =>
      obtain ⟨wn, rfl⟩ := Hp.is_over hf
      have hq' : (q1, Dp.count Z i) = (q', α') := hq
      obtain ⟨rfl, rfl⟩ := Prod.mk.inj hq'
      refine (dstep_end h hi who hG hlen hh hx inx _ d ?_ (fun w1 m1 i1 => dend_done m1 hb i1 who hG hx _ (fun s' l' P => Hp.cells_len P.2.1) (fun s' l' P => by have := P.1.len; omega) (fun w2 m2 i2 => help_step m2 hb hT hG hσ hdw hx η i2 ihl gη oη who _ _ ht true hf))).mono ?_
      · rintro s' a' ⟨l', _, rfl⟩
        rw [← hdn]; rfl
      · rintro e w' ⟨rfl, s', cs', a', m', o', i', sm, l', ⟨t', c', st'⟩, rfl⟩
        exact ⟨rfl, _, cs', _, m', t', i', ⟨rfl, inu, iow, isec, trivial, trivial, iE, iH, iV⟩, sm, o', st', (fun h => by cases h), by first | exact trivial | rfl⟩
  | count Z i =>
    obtain ⟨z1, z2, hik, hlv⟩ := hg
    obtain ⟨ich, isz⟩ := isec
    obtain ⟨kz, hκ⟩ := class_room z1 z2
    have hr := room_bd (classOf Z).toNat
    have hnc : 6 + t + n * 2 + i * 3 + 1 < s.n := by omega
    have tw := hT.uncounts hσ who hik hr.2 hlv
    by_cases hl : g ≤ (G : Int)
    · have hq' : ({ q with lv := upd q.lv i (q.lv i - room (classOf Z).toNat) }, Dp.over 0) = (q', α') := by rw [← hq]; simp [dpTurn, hl]
      obtain ⟨rfl, rfl⟩ := Prod.mk.inj hq'
      refine (dstep_count h hi who hG hlen hh hx inx _ d ?_ (fun w1 m1 i1 => dcount_last m1 hb i1 who hG ich hik isz kz hκ hnc hl)).mono ?_
      · rintro s' a' ⟨_, rfl⟩
        rw [← hdn]; rfl
      · rintro e w' ⟨rfl, s', cs', a', m', o', i', sm, rfl, rfl⟩
        exact ⟨rfl, _, cs', _, m', tw, i', ⟨rfl, inu, iow, trivial, trivial, trivial, iE, iH, iV⟩, sm, o', ⟨_, rfl⟩, (fun h => by cases h), by first | exact trivial | rfl⟩
    · have hq' : ({ q with lv := upd q.lv i (q.lv i - room (classOf Z).toNat) }, Dp.give .idle) = (q', α') := by rw [← hq]; simp [dpTurn, hl]
      obtain ⟨rfl, rfl⟩ := Prod.mk.inj hq'
      refine (dstep_count h hi who hG hlen hh hx inx _ d ?_ (fun w1 m1 i1 => dcount_next m1 hb i1 who hG ich hik isz kz hκ hnc (by omega))).mono ?_
      · rintro s' a' ⟨_, rfl⟩
        rw [← hdn]; rfl
      · rintro e w' ⟨rfl, s', cs', a', m', o', i', sm, rfl, rfl⟩
        exact ⟨rfl, _, cs', _, m', tw, i', ⟨rfl, inu, iow, trivial, trivial, ⟨0, rfl⟩, iE, iH, iV⟩, sm, o', ⟨_, rfl⟩, (fun h => by cases h), by first | exact trivial | rfl⟩
  | give γ =>
    obtain ⟨hxF, gγ, oγ⟩ := hg
    obtain ⟨c', lk', F', γ', ht⟩ : ∃ c' lk' F' γ', gvTurn q.c q.lk q.F x γ = (c', lk', F', γ') := ⟨_, _, _, _, rfl⟩
    have hat := Gv.at_in (t := t) hx γ
    simp only [dpTurn, ht] at hq
    cases hf : γ'.done with
    | false =>
      rw [dpGive_on hf] at hq
      obtain ⟨rfl, rfl⟩ := Prod.mk.inj hq
      obtain rfl : false = d := hd
      refine (dstep_give_on h hi who hG hlen hh hx inx (fun w1 m1 i1 => give_turn m1 hb hT.pile hσ hG.t1 hx hxF γ ⟨_, i1, igl⟩ gγ oγ _ _ _ _ _ who c' lk' F' γ' ht false hf)).mono ?_
      rintro e w' ⟨rfl, s', cs', a', m', o', i', sm, p', ⟨v, rfl⟩, g', l, hl, rfl⟩
      exact ⟨rfl, _, cs', _, m', hT.slots hσ who _ v hat p', i', ⟨inx, inu, iow, trivial, trivial, hl, iE, iH, iV⟩, sm, o', ⟨v, rfl⟩, (fun h => by cases h), by first | exact trivial | rfl⟩
    | true =>
      have := Gv.is_over hf
      subst this
      have hq' : ({ q with c := c', lk := lk', F := F' }, Dp.over 0) = (q', α') := hq
      obtain ⟨rfl, rfl⟩ := Prod.mk.inj hq'
      obtain rfl : true = d := hd
      refine (dstep_give_over h hi who hG hlen hh hb hx inx (fun w1 m1 i1 => give_turn m1 hb hT.pile hσ hG.t1 hx hxF γ ⟨_, i1, igl⟩ gγ oγ _ _ _ _ _ who c' lk' F' _ ht true hf)).mono ?_
      rintro e w' ⟨rfl, s', cs', a', m', o', i', sm, p', ⟨v, rfl⟩, g', l, hl, rfl⟩
      exact ⟨rfl, _, cs', _, m', hT.slots hσ who _ v hat p', i', ⟨rfl, inu, iow, trivial, trivial, trivial, iE, iH, iV⟩, sm, o', ⟨v, rfl⟩, (fun h => by cases h), by first | exact trivial | rfl⟩

end

/-- alone: so many steps, the last of which ends it; the slot's word is another one behind the object's life -/
inductive DTells (t n k m : Nat) (cg : Int) (own : Bool) (x G : Nat) : Nat → Q → Dp → Q → Dp → Prop where
  | one {q : Q} {α : Dp} {q' : Q} {α' : Dp} (ho : α.over? = false) (hg : α.good t n k m x G q) (ht : dpTurn t n k m cg own x G q α = (q', α')) (h : α'.over? = true) : DTells t n k m cg own x G 1 q α q' α'
  | more {N : Nat} {q : Q} {α : Dp} {q1 : Q} {α1 : Dp} {q' : Q} {α' : Dp} (ho : α.over? = false) (hg : α.good t n k m x G q) (ht : dpTurn t n k m cg own x G q α = (q1, α1)) (h : α1.over? = false) (hw : ∀ Z i η, α = .fin Z i η → α1 = .count Z i → q1.sw x ≠ q.sw x) (g : DTells t n k m cg own x G N q1 α1 q' α') : DTells t n k m cg own x G (N + 1) q α q' α'

theorem DTells.pos {t n k m : Nat} {cg : Int} {own : Bool} {x G : Nat} {N : Nat} {q : Q} {α : Dp} {q' : Q} {α' : Dp} (g : DTells t n k m cg own x G N q α q' α') : 1 ≤ N := by
  cases g <;> omega

theorem tl_next {t n k m σ σ1 j : Nat} {s s' : Mm} {q q' : Q} {who cg : Int} {own : Bool} {x G : Nat} {α α' : Dp} {a a' : DV} (hx : x < n) (hT : Town t n k m s σ1 q) (hT' : Town t n k m s' (σ1 + 1) q') (hs : ∃ v, s' = (s.by who).step (α.at t n x) v) (ht : dpTurn t n k m cg own x G q α = (q', α')) (hw : ∀ Z i η, α = .fin Z i η → α' = .count Z i → q'.sw x ≠ q.sw x) (ho : α.over? = false) (h : TlI σ j a.St α) (hl : Tl t x s' a a' α α') (e : σ1 = σ + j) (hb : σ1 < 1000000) : TlI σ (j + 1) a'.St α' := by
  have three : TlI σ (j + 1) a'.St (.over 3) := fun h => by cases h
  cases α with
  | over => cases ho
  | see =>
    obtain ⟨-, hα⟩ := Prod.mk.inj ht
    split at hα <;> subst hα
    · trivial
    · exact three
  | ask v =>
    obtain ⟨-, hα⟩ := Prod.mk.inj ht
    unfold dpAsk at hα
    split at hα
    · split at hα <;> (subst hα; trivial)
    · subst hα; exact three
  | mark v Z =>
    simp only [dpTurn] at ht
    split at ht <;> (obtain ⟨-, rfl⟩ := Prod.mk.inj ht; trivial)
  | help η =>
    obtain ⟨q1, η1, h1⟩ : ∃ q1 η1, hpTurn cg x q η = (q1, η1) := ⟨_, _, rfl⟩
    simp only [dpTurn, h1] at ht
    cases η1 <;> (simp only [dpHelp] at ht; obtain ⟨-, rfl⟩ := Prod.mk.inj ht; trivial)
  | fin Z i η =>
    obtain ⟨q1, η1, h1⟩ : ∃ q1 η1, hpTurn cg x q η = (q1, η1) := ⟨_, _, rfl⟩
    simp only [dpTurn, h1] at ht
    cases η1 with
    | go => simp only [dpFin] at ht; obtain ⟨-, rfl⟩ := Prod.mk.inj ht; trivial
    | over wn =>
      simp only [dpFin] at ht
      obtain ⟨rfl, rfl⟩ := Prod.mk.inj ht
      have hne := hw Z i η rfl rfl
      have hSt : a'.St = s'.wn (6 + t + x * 2) := hl
      obtain ⟨v, hv⟩ := hs
      have d1 := hT.swv x hx
      have d2 := hT'.swv x hx
      have d3 : s'.wd (6 + t + x * 2) ≠ s.wd (6 + t + x * 2) := by rw [d1, d2]; exact hne
      have hat : (Dp.fin Z i η).at t n x = 6 + t + x * 2 := by
        by_cases e : (Dp.fin Z i η).at t n x = 6 + t + x * 2
        · exact e
        · exfalso
          apply d3
          rw [hv]
          show upd s.wd _ v (6 + t + x * 2) = _
          rw [upd_other _ _ _ _ (fun h => e h.symm)]
      rw [hat] at hv
      have hvw : s'.wd (6 + t + x * 2) = v := by rw [hv]; exact upd_same _ _ _
      have hwn : s'.wn (6 + t + x * 2) = wrap64 (s.steps + 1) := by
        rw [hv]
        show (if s.wd (6 + t + x * 2) = v then s.wn else upd s.wn (6 + t + x * 2) (wrap64 (s.steps + 1))) (6 + t + x * 2) = _
        rw [if_neg (fun h => d3 (by rw [hvw, h])), upd_same]
      have hst : wrap64 (s.steps + 1) = ((σ1 + 1 : Nat) : Int) := by rw [hT.pile.st]; exact hT.pile.wrapS hb
      show (σ : Int) < a'.St ∧ a'.St ≤ (σ : Int) + ((j + 1 : Nat) : Int)
      rw [hSt, hwn, hst]
      omega
  | count Z i =>
    have hSt : a'.St = a.St := hl
    have h' : (σ : Int) < a.St ∧ a.St ≤ (σ : Int) + j := h
    have key : (σ : Int) < a'.St ∧ a'.St ≤ (σ : Int) + ((j + 1 : Nat) : Int) := by rw [hSt]; omega
    obtain ⟨-, hα⟩ := Prod.mk.inj ht
    split at hα <;> subst hα
    · exact fun _ => key
    · exact key
  | give γ =>
    have hSt : a'.St = a.St := hl
    have h' : (σ : Int) < a.St ∧ a.St ≤ (σ : Int) + j := h
    have key : (σ : Int) < a'.St ∧ a'.St ≤ (σ : Int) + ((j + 1 : Nat) : Int) := by rw [hSt]; omega
    obtain ⟨c', lk', F', γ', h1⟩ : ∃ c' lk' F' γ', gvTurn q.c q.lk q.F x γ = (c', lk', F', γ') := ⟨_, _, _, _, rfl⟩
    simp only [dpTurn, h1] at ht
    cases γ' <;> (simp only [dpGive] at ht; obtain ⟨-, rfl⟩ := Prod.mk.inj ht; first | exact key | exact fun _ => key)

section
variable {w : World} {L : Loc} {t n k m σ : Nat} {s : Mm} {q : Q} {nu : Int} {own : Bool}

set_option maxHeartbeats 1000000 in
theorem drop_tells {cg cp cr : Int} (h : MemAt w L s) (hT : Town t n k m s σ q) (hG : Good t n k m cg cp cr) (hdw : ∀ a, Wd (q.dw a)) {x G : Nat} (hh : HandIs nu x G) (hx : x < n) (hσ : σ + 200 < 1000000) {N : Nat} (hN : N ≤ 200) {q' : Q} {E : Int} (g : DTells t n k m cg own x G N q .see q' (.over E)) :
    Calls Tryz.prog 18 #[.agg #[.int .i64 t, .int .i64 n, .int .i64 k, .int .i64 m, .int .i64 cg, .int .i64 cp, .int .i64 cr, .pointer (some ⟨L.p, 0, none⟩), .int .i64 0], .int .u64 nu, .bool own] w fun e w' => ∃ (st : Int) (s' : Mm), e = .returned (.agg #[.int .i64 E, .int .u64 0, .int .i64 0, .int .i64 st]) ∧ MemAt w' L s' ∧ Town t n k m s' (σ + N) q' ∧ Only L.has w w' ∧ (E = 0 → (σ : Int) < st ∧ st ≤ (σ : Int) + N) := by
  have hB : Hid (¬ L.has w.heap.size) := fun hh => by have := h.lt _ hh; omega
  have hB1 : Hid (¬ L.has (w.heap.size + 1)) := fun hh => by have := h.lt _ hh; omega
  have hB2 : Hid (¬ L.has (w.heap.size + 1 + 1)) := fun hh => by have := h.lt _ hh; omega
  have HT : Hid (Town t n k m s σ q) := hT
  have HM : Hid (MemAt w L s) := h
  have HG : Hid (Good t n k m cg cp cr) := hG
  have HH : Hid (HandIs nu x G) := hh
  have HX : Hid (x < n) := hx
  have HW : Hid (∀ a, Wd (q.dw a)) := hdw
  have GG : Hid (DTells t n k m cg own x G N q .see q' (.over E)) := g
  clear h hT hG g hh hx hdw
  go_enter Tryz.func18, Tryz.ntmps18
  go_wp2_with (go_at_call 37; refine (newDrop_any nu own _).mono ?_; rintro e w1 ⟨rfl, rfl⟩)
  have A1 : Hid (∃ s1 cs1 a1, MemAt (((w.alloc (.cells #[.int .i64 t, .int .i64 n, .int .i64 k, .int .i64 m, .int .i64 cg, .int .i64 cp, .int .i64 cr, .pointer (some ⟨L.p, 0, none⟩), .int .i64 0] 28)).alloc (.cells #[.int .i64 0, .int .u64 0, .int .i64 0, .int .i64 0] 37)).alloc (drop0 nu own)) L s1 ∧ Town t n k m s1 (σ + 0) q ∧ DpAt (((w.alloc (.cells #[.int .i64 t, .int .i64 n, .int .i64 k, .int .i64 m, .int .i64 cg, .int .i64 cp, .int .i64 cr, .pointer (some ⟨L.p, 0, none⟩), .int .i64 0] 28)).alloc (.cells #[.int .i64 0, .int .u64 0, .int .i64 0, .int .i64 0] 37)).alloc (drop0 nu own)) (w.heap.size + 1 + 1) 0 113 cs1 a1 ∧ DpIs t n k m nu own x .see a1 ∧ BoxV (((w.alloc (.cells #[.int .i64 t, .int .i64 n, .int .i64 k, .int .i64 m, .int .i64 cg, .int .i64 cp, .int .i64 cr, .pointer (some ⟨L.p, 0, none⟩), .int .i64 0] 28)).alloc (.cells #[.int .i64 0, .int .u64 0, .int .i64 0, .int .i64 0] 37)).alloc (drop0 nu own)) w.heap.size t n k m cg cp cr L.p 0 ∧ At (((w.alloc (.cells #[.int .i64 t, .int .i64 n, .int .i64 k, .int .i64 m, .int .i64 cg, .int .i64 cp, .int .i64 cr, .pointer (some ⟨L.p, 0, none⟩), .int .i64 0] 28)).alloc (.cells #[.int .i64 0, .int .u64 0, .int .i64 0, .int .i64 0] 37)).alloc (drop0 nu own)) (w.heap.size + 1) 0 37 #[.int .i64 0, .int .u64 0, .int .i64 0, .int .i64 0] [.int .i64 0, .int .u64 0, .int .i64 0, .int .i64 0] ∧ Only (L.and (w.heap.size + 1 + 1)) w (((w.alloc (.cells #[.int .i64 t, .int .i64 n, .int .i64 k, .int .i64 m, .int .i64 cg, .int .i64 cp, .int .i64 cr, .pointer (some ⟨L.p, 0, none⟩), .int .i64 0] 28)).alloc (.cells #[.int .i64 0, .int .u64 0, .int .i64 0, .int .i64 0] 37)).alloc (drop0 nu own))) := by
    obtain ⟨cs, q0⟩ := drop0_at nu own ((w.alloc (.cells #[.int .i64 t, .int .i64 n, .int .i64 k, .int .i64 m, .int .i64 cg, .int .i64 cp, .int .i64 cr, .pointer (some ⟨L.p, 0, none⟩), .int .i64 0] 28)).alloc (.cells #[.int .i64 0, .int .u64 0, .int .i64 0, .int .i64 0] 37))
    rw [Go.Deep.nblk_alloc, Go.Deep.nblk_alloc] at q0
    have q1 := (At.new (w.alloc (.cells #[.int .i64 t, .int .i64 n, .int .i64 k, .int .i64 m, .int .i64 cg, .int .i64 cp, .int .i64 cr, .pointer (some ⟨L.p, 0, none⟩), .int .i64 0] 28)) 37 [.int .i64 0, .int .u64 0, .int .i64 0, .int .i64 0]).grown (grow_alloc (Below.refl _ _) (drop0 nu own))
    rw [Go.Deep.nblk_alloc] at q1
    exact ⟨s, cs, _, ((HM.out.alloc _).alloc _).alloc _, HT.out, q0, dp0_is t n k m nu own x, (BoxV.newB _).grown (grow_alloc (Below.refl _ _) _), q1, (((Only.refl _ _).alloc _).alloc _).alloc _⟩
  clear HM HT
  go_loopw [8] (fun i wr => ∃ (j N1 : Nat) (s1 : Mm) (cs1 : Array Value) (a1 : DV) (q1 : Q) (α1 : Dp), i = .int .i64 j ∧ j + N1 = N ∧ DTells t n k m cg own x G N1 q1 α1 q' (.over E) ∧ (∀ a, Wd (q1.dw a)) ∧ TlI σ j a1.St α1 ∧ MemAt wr L s1 ∧ Town t n k m s1 (σ + j) q1 ∧ DpAt wr (w.heap.size + 1 + 1) 0 113 cs1 a1 ∧ DpIs t n k m nu own x α1 a1 ∧ BoxV wr w.heap.size t n k m cg cp cr L.p 0 ∧ At wr (w.heap.size + 1) 0 37 #[.int .i64 0, .int .u64 0, .int .i64 0, .int .i64 0] [.int .i64 0, .int .u64 0, .int .i64 0, .int .i64 0] ∧ Only (L.and (w.heap.size + 1 + 1)) w wr) (fun i _ => 200 - (intOf i).toNat)
  case atStart =>
    obtain ⟨s1, cs1, a1, hm⟩ := A1.out
    exact ⟨0, N, s1, cs1, a1, q, _, rfl, by omega, GG.out, HW.out, trivial, hm⟩
  case round =>
    clear A1 GG HW
    obtain ⟨j, N1, s1, cs1, a1, q1, α1, rfl, hj, gg, wd, ti, mm, tw, ia, is1, v, j1, on⟩ := hrel
    have HTI : Hid (TlI σ j a1.St α1) := ti
    clear ti
    have hN1 := gg.pos
    have hj3 : (j : Int) < 200 := by omega
    have y0 := v.c0
    have y1 := v.c1
    have y2 := v.c2
    have y3 := v.c3
    have y4 := v.c4
    have y5 := v.c5
    have y6 := v.c6
    have y7 := v.c7
    have y8 := v.c8
    cases gg with
    | one ho hg ht h1 =>
      have HT1 : Hid (dpTurn t n k m cg own x G q1 α1 = (q', .over E)) := ht
      have HO : Hid (α1.over? = false) := ho
      have HGd : Hid (α1.good t n k m x G q1) := hg
      clear ht ho hg
      go_wp2_with (first
        | (go_at_call 38; refine (drop_step_t mm hB2.out tw HG.out (by omega) wd HH.out HX.out α1 ia is1 HGd.out HO.out 0 _ _ HT1.out true h1).mono ?_; rintro e w2 ⟨rfl, s2, cs2, a2, P⟩; have c1 : a2.E = E := P.is.E; have c2 := P.is.H; have c3 := P.is.V; have hnx := P.is.nx)
        | (go_at_call 39; refine (ddone_over P.dp hnx).mono ?_; rintro e w3 ⟨rfl, b3⟩; rw [c1, c2, c3]; have j3 := (j1.only P.only (fun hh => hh.elim hB1.out (by omega))).grown b3; have z0 := j3.at0 0 rfl; have z1 := j3.at0 1 rfl; have z2 := j3.at0 2 rfl; have z3 := j3.at0 3 rfl; have qf := j3.fz))
      refine bodyPost_ret (v := .agg #[.int .i64 E, .int .u64 0, .int .i64 0, .int .i64 a2.St]) (by simp [results, Tryz.results18, go_sem, z0, z1, z2, z3]) rfl ?_
      refine ⟨_, s2, rfl, ((((P.mm.below b3).setIn hB1.out _ _).setIn hB1.out _ _).setIn hB1.out _ _).setIn hB1.out _ _, ?_, ?_, fun hE0 => ?_⟩
      · have := P.tw
        rwa [show σ + j + 1 = σ + N by omega] at this
      · exact ((((((on.trans P.only).trans (Only.ofGrown b3)).setCell (fun hlt => by simp only at hlt; omega) _).setCell (fun hlt => by simp only at hlt; omega) _).setCell (fun hlt => by simp only at hlt; omega) _).setCell (fun hlt => by simp only at hlt; omega) _).mono (fun x hx hh => hh.elim id (fun e => absurd e (by omega)))
      · have e := tl_next HX.out tw P.tw P.st HT1.out (fun Z i η _ e2 => by cases e2) HO.out HTI.out P.tl rfl (by omega) hE0
        exact ⟨e.1, by omega⟩
    | more ho hg ht h1 hw g1 =>
      have HHW : Hid (∀ Z i η, _ = Dp.fin Z i η → _ = Dp.count Z i → Q.sw _ x ≠ Q.sw _ x) := hw
      clear hw
      have wd1 := dpTurn_wd wd ht
      have HT1 : Hid (dpTurn t n k m cg own x G q1 α1 = (_, _)) := ht
      have HO : Hid (α1.over? = false) := ho
      have HGd : Hid (α1.good t n k m x G q1) := hg
      clear ht ho hg
      go_wp2_with (go_at_call 38; refine (drop_step_t mm hB2.out tw HG.out (by omega) wd HH.out HX.out α1 ia is1 HGd.out HO.out 0 _ _ HT1.out false h1).mono ?_; rintro e w2 ⟨rfl, s2, cs2, a2, P⟩)
      go_roundw
      case rel =>
        exact ⟨j + 1, _, s2, cs2, a2, _, _, by go_num, by omega, g1, wd1, tl_next HX.out tw P.tw P.st HT1.out HHW.out HO.out HTI.out P.tl rfl (by omega), P.mm, P.tw, P.dp, P.is, v.only P.only (fun hh => hh.elim hB.out (by omega)), j1.only P.only (fun hh => hh.elim hB1.out (by omega)), on.trans P.only⟩
      case measure => simp [intOf]; omega

end

section
variable {t n k m : Nat} {cg : Int} {own : Bool} {x G : Nat}

/-- the cells are frozen one by one -/
theorem fin_tells {q : Q} {v : Int} {Z i : Nat} (O : ∃ i, Obj9 t n k m v Z i) (hdw : ∀ a, Wd (q.dw a)) (hc : ∀ j, j < Z → frozenIn (q.dw (adOf v + 1 + j)) (verOf' v) = false) {M : Nat} {q' : Q} {α' : Dp} (g : DTells t n k m cg own x G M (q.fz (adOf v) (verOf' v) Z) (.fin Z i (.go v Z Z none)) q' α') : ∀ d j, j + d = Z → DTells t n k m cg own x G (2 * d + M) (q.fz (adOf v) (verOf' v) j) (.fin Z i (.go v Z j none)) q' α' := by
  intro d
  induction d with
  | zero => intro j hj; obtain rfl : j = Z := by omega
            rw [Nat.mul_zero, Nat.zero_add]; exact g
  | succ d ih =>
    intro j hj
    have hlt : ¬ Z ≤ j := by omega
    rw [show 2 * (d + 1) + M = (2 * d + M) + 1 + 1 by omega]
    refine .more (q1 := q.fz (adOf v) (verOf' v) j) (α1 := .fin Z i (.go v Z j (some (q.dw (adOf v + 1 + j))))) rfl ⟨⟨O, fun u hu => by cases hu⟩, rfl⟩ ?_ rfl (fun _ _ _ e1 e2 => by first | (cases e1; done) | (cases e2; done)) (.more (q1 := q.fz (adOf v) (verOf' v) (j + 1)) (α1 := .fin Z i (.go v Z (j + 1) none)) rfl ⟨⟨O, fun u hu => by cases hu; exact hdw _⟩, rfl⟩ ?_ rfl (fun _ _ _ e1 e2 => by first | (cases e1; done) | (cases e2; done)) (ih (j + 1) (by omega)))
    · have e : (q.fz (adOf v) (verOf' v) j).dw (adOf v + 1 + j) = q.dw (adOf v + 1 + j) := frz_at _ _ _ _
      simp only [dpTurn, hpTurn, hlt, if_false, e, hc j (by omega)]
      rfl
    · have e : (q.fz (adOf v) (verOf' v) j).dw (adOf v + 1 + j) = q.dw (adOf v + 1 + j) := frz_at _ _ _ _
      simp only [dpTurn, hpTurn, hlt, if_false, e, if_true]
      have := frz_next q.dw (adOf v) (verOf' v) j
      simp only [Q.fz, dpFin, this]

/-- an object that is no more ahead of being let go: how it goes from the mark on, in one's hand -/
theorem mark_tells {q : Q} {v : Int} {Z i : Nat} (O : Obj9 t n k m v Z i) (hdw : ∀ a, Wd (q.dw a)) (hv : verOf' v < 4194303) (hc : ∀ j, j < Z → frozenIn (q.dw (adOf v + 1 + j)) (verOf' v + 1) = false) (hw : q.sw x = v) {M : Nat} {q' : Q} {α' : Dp} (g : DTells t n k m cg own x G M { q with sw := upd q.sw x (behindW cg v), dw := frz q.dw (adOf v) (verOf' v + 1) Z } (.count Z i) q' α') : DTells t n k m cg own x G (2 * Z + (M + 1) + 1) q (.mark v Z) q' α' := by
  obtain ⟨d1, d2, d3, d4⟩ := mark_dec hv
  have O' := O.mark hv
  have ci : (chunkOf t n k m (adOf v)).toNat = i := by rw [O.c1]; simp
  refine .more (q1 := { q with sw := upd q.sw x (markW v) }) (α1 := .fin Z i (.go (markW v) Z 0 none)) rfl ⟨i, O⟩ ?_ rfl (fun _ _ _ e1 e2 => by first | (cases e1; done) | (cases e2; done)) ?_
  · simp only [dpTurn, hw, if_true, ci]
  · have f   := fin_tells (cg := cg) (own := own) (x := x) (G := G) (i := i) (q := { q with sw := upd q.sw x (markW v) }) (v := markW v) (Z := Z) ⟨i, O'⟩ hdw (fun j hj => by rw [d2, d4]; exact hc j hj) (M := M + 1) (q' := q') (α' := α') ?_ Z 0 (by omega)
    · rwa [show Q.fz { q with sw := upd q.sw x (markW v) } (adOf (markW v)) (verOf' (markW v)) 0 = { q with sw := upd q.sw x (markW v) } by unfold Q.fz; rw [frz0]] at f
    · have ne : ¬ upd q.sw x (behindW cg v) x = upd q.sw x (markW v) x := by
        rw [upd_same, upd_same]
        intro h
        have h1 := d1
        rw [← h] at h1
        rcases behind_st cg v with k | k <;> omega
      refine .more (q1 := { q with sw := upd q.sw x (behindW cg v), dw := frz q.dw (adOf v) (verOf' v + 1) Z }) (α1 := .count Z i) rfl ⟨⟨⟨i, O'⟩, fun u hu => by cases hu⟩, rfl⟩ ?_ rfl (fun _ _ _ _ _ h => ne h) g
      have e : (Q.fz { q with sw := upd q.sw x (markW v) } (adOf (markW v)) (verOf' (markW v)) Z).sw x = markW v := upd_same _ _ _
      simp only [dpTurn, hpTurn, Nat.le_refl, if_true, hpEnd, e, dpFin]
      simp only [Q.fz, d2, d4, upd_upd, behind_mark hv]

theorem give_tells {q : Q} (hxF : x ∉ q.F) (hh : hd q.F ≤ n) : DTells t n k m cg own x G 3 q (.give .idle) { q with c := q.c + 1, lk := upd q.lk x (hd q.F), F := x :: q.F } (.over 0) := by
  refine .more (q1 := q) (α1 := .give (.saw (hd q.F) q.c)) rfl ⟨hxF, trivial, rfl⟩ rfl rfl (fun _ _ _ e1 e2 => by first | (cases e1; done) | (cases e2; done)) (.more (q1 := { q with lk := upd q.lk x (hd q.F) }) (α1 := .give (.lnk (hd q.F) q.c)) rfl ⟨hxF, ⟨hh, Nat.le_refl _, fun _ => rfl⟩, rfl⟩ rfl rfl (fun _ _ _ e1 e2 => by first | (cases e1; done) | (cases e2; done)) (.one rfl ⟨hxF, ⟨hh, upd_same _ _ _, Nat.le_refl _, fun _ => rfl⟩, rfl⟩ ?_ rfl))
  simp only [dpTurn, gvTurn, if_true, dpGive]

/-- the count, and what follows it -/
theorem count_tells {q : Q} {Z i : Nat} (z1 : 1 ≤ Z) (z2 : Z ≤ 16) (hik : i < k) (hlv : room (classOf Z).toNat ≤ q.lv i) (hxF : x ∉ q.F) (hh : hd q.F ≤ n) (hl : (G : Int) < cg) : DTells t n k m cg own x G 4 q (.count Z i) { q with lv := upd q.lv i (q.lv i - room (classOf Z).toNat), c := q.c + 1, lk := upd q.lk x (hd q.F), F := x :: q.F } (.over 0) := by
  refine .more (q1 := { q with lv := upd q.lv i (q.lv i - room (classOf Z).toNat) }) (α1 := .give .idle) rfl ⟨z1, z2, hik, hlv⟩ ?_ rfl (fun _ _ _ e1 e2 => by first | (cases e1; done) | (cases e2; done)) (give_tells (q := { q with lv := upd q.lv i (q.lv i - room (classOf Z).toNat) }) hxF hh)
  simp only [dpTurn, show ¬ cg ≤ (G : Int) by omega, if_false]

/-- whoever sees an object that lives comes to the mark -/
theorem see_tells {q : Q} {Z i : Nat} (O : Obj9 t n k m (q.sw x) Z i) (hz : szOf (q.dw (adOf (q.sw x))) = Z) (ho : ownOf (q.dw (adOf (q.sw x))) = own) (hG : genOf (q.sw x) = G) (h4 : q.sw x % 8 ≠ 4) {M : Nat} {q' : Q} {α' : Dp} (g : DTells t n k m cg own x G M q (.mark (q.sw x) Z) q' α') : DTells t n k m cg own x G (M + 1 + 1) q .see q' α' := by
  refine .more (q1 := q) (α1 := .ask (q.sw x)) rfl (fun _ _ => ⟨i, by rw [hz]; exact O⟩) ?_ rfl (fun _ _ _ e1 e2 => by first | (cases e1; done) | (cases e2; done)) (.more (q1 := q) (α1 := .mark (q.sw x) Z) rfl ⟨i, by rw [hz]; exact O⟩ ?_ rfl (fun _ _ _ e1 e2 => by first | (cases e1; done) | (cases e2; done)) g)
  · simp only [dpTurn, O.life, hG, decide_true, Bool.and_self, if_true]
  · simp only [dpTurn, dpAsk, ho, beq_self_eq_true, if_true, h4, if_false, hz]

/-- an object that lives is let go -/
theorem tells_gone {q : Q} {Z i : Nat} (O : Obj9 t n k m (q.sw x) Z i) (hdw : ∀ a, Wd (q.dw a)) (hz : szOf (q.dw (adOf (q.sw x))) = Z) (ho : ownOf (q.dw (adOf (q.sw x))) = own) (hG : genOf (q.sw x) = G) (h4 : q.sw x % 8 ≠ 4) (hv : verOf' (q.sw x) < 4194303) (hc : ∀ j, j < Z → frozenIn (q.dw (adOf (q.sw x) + 1 + j)) (verOf' (q.sw x) + 1) = false) (hlv : room (classOf Z).toNat ≤ q.lv i) (hxF : x ∉ q.F) (hh : hd q.F ≤ n) (hl : (G : Int) < cg) : DTells t n k m cg own x G (2 * Z + 8) q .see (q.gone cg x (q.sw x) Z i) (.over 0) :=
  see_tells O hz ho hG h4 (mark_tells O hdw hv hc rfl (count_tells (q := { q with sw := upd q.sw x (behindW cg (q.sw x)), dw := frz q.dw (adOf (q.sw x)) (verOf' (q.sw x) + 1) Z }) O.z1 O.z2 O.ik hlv hxF hh hl))

end

end Go.Proofs.YtcdmokbamakomaaGreat
