/- The statements' own first look at package drop: an object goes once. -/
import Derived.Test.YtbmiieaakbcncaaGreatDropFarm
import Derived.Test.YtbmiieaakbcncaaGreatDropGang
namespace Go.Proofs.YtbmiieaakbcncaaGreat
open Go.RowKit

/-- the first object of the first arena -/
def ox1 : Ox := ⟨0, 1, base 1 4 2 20 0, 0, 0, 2, 0, false⟩
def qa : Q := (Q.new 4).made 0 [1, 2, 3] y1 (base 1 4 2 20 0) 0 0 2 false
def qb : Q := qa.gone 100 ox1.x (qa.sw ox1.x) ox1.Z ox1.i

theorem good1 : Good 1 4 2 20 100 600 3 := goodp (by omega) (by omega) (by omega) (by omega)

theorem qb_dead : (lifeB (qb.sw 0 % 8) && decide (genOf (qb.sw 0) = 1)) = false := by
  have e : qb.sw 0 = behindW 100 (qa.sw 0) := by
    unfold qb Q.gone Q.end
    exact upd_same qa.sw 0 (behindW 100 (qa.sw 0))
  have e2 : qa.sw 0 = packS 1 (base 1 4 2 20 0) (genOf ((Q.new 4).sw 0)) 0 := by
    unfold qa Q.made
    exact upd_same (Q.new 4).sw 0 (packS 1 (base 1 4 2 20 0) (genOf ((Q.new 4).sw 0)) 0)
  rw [show genOf ((Q.new 4).sw 0) = 1 from gen1] at e2
  have d := packS_dec (st := 1) (A := base 1 4 2 20 0) (G := 1) (V := 0) (by decide) (by decide) (by decide) (by decide)
  have g : genOf (qa.sw 0) = 1 := by rw [e2]; exact d.2.2.1
  have b : behindW 100 (qa.sw 0) = packS ((0 : Nat) : Int) ((0 : Nat) : Int) ((2 : Nat) : Int) ((0 : Nat) : Int) := by
    unfold behindW
    rw [g, if_neg (by decide)]
    rfl
  have d2 := packS_dec (st := 0) (A := 0) (G := 2) (V := 0) (by decide) (by decide) (by decide) (by decide)
  rw [e, b, d2.1]
  rfl

section
variable {w0 w : World} {L : Loc} {bE σ : Nat} {s : Mm}

theorem aw_make (f : Farm w0 w L bE 1 4 2 20 100 s σ (Q.new 4) 0 (fun _ => 1) []) (a : FarmApart w0 L bE 1 4 2 20 100) (hσ : σ + 400 < 1000000) :
    Calls Tryz.prog 11 #[.agg #[.int .i64 1, .int .i64 4, .int .i64 2, .int .i64 20, .int .i64 100, .int .i64 600, .int .i64 3, .pointer (some ⟨L.p, 0, none⟩), .int .i64 0], .int .i64 2, .bool false] w fun e w' => ∃ (st : Nat) (s' : Mm) (σ' : Nat), e = .returned (.agg #[.int .i64 0, .int .u64 65536, .int .i64 0, .int .i64 st]) ∧ σ' ≤ σ + 100 ∧ Farm w0 w' L bE 1 4 2 20 100 s' σ' qa 1 (fun _ => 1) ([] ++ ox1 :: []) ∧ Only L.has w w' := by
  have g : Got 2 20 0 (base 1 4 2 20) (Q.new 4).y 0 y1 (0 + 1) (.won (base 1 4 2 20 0) 0) := .new (fun i h => by simp [Q.new, Y.new] at h) (by decide)
  have k := f.ok (own := false) a (Z := 2) (κ := 0) (by decide) (by decide) rfl (by decide) (x := 0) (F := [1, 2, 3]) rfl g hσ
  rw [show packH ((0 : Nat) : Int) (((fun _ => 1) 0 : Nat) : Int) = 65536 from packH01] at k
  refine k.mono ?_
  rintro e w' ⟨st, s', σ', rfl, -, -, h3, f', o'⟩
  exact ⟨st, s', σ', rfl, h3, f', o'⟩

theorem aw_gone (f : Farm w0 w L bE 1 4 2 20 100 s σ qa 1 (fun _ => 1) ([] ++ ox1 :: [])) (a : FarmApart w0 L bE 1 4 2 20 100) (hσ : σ + 200 < 1000000) :
    Calls Tryz.prog 14 #[.agg #[.int .i64 1, .int .i64 4, .int .i64 2, .int .i64 20, .int .i64 100, .int .i64 600, .int .i64 3, .pointer (some ⟨L.p, 0, none⟩), .int .i64 0], .int .u64 65536, .bool false] w fun e w' => ∃ (st : Int) (s' : Mm) (σ' : Nat), e = .returned (.agg #[.int .i64 0, .int .u64 0, .int .i64 0, .int .i64 st]) ∧ σ' ≤ σ + 40 ∧ Farm w0 w' L bE 1 4 2 20 100 s' σ' qb 1 (upd (fun _ => 1) 0 2) ([] ++ []) ∧ Only L.has w w' := by
  have k := f.gone a (show ((1 : Nat) : Int) < 100 by decide) hσ
  rw [show packH (ox1.x : Int) (ox1.g : Int) = 65536 from packH01] at k
  exact k

theorem aw_dead (f : Farm w0 w L bE 1 4 2 20 100 s σ qb 1 (upd (fun _ => 1) 0 2) ([] ++ [])) (a : FarmApart w0 L bE 1 4 2 20 100) (hσ : σ + 200 < 1000000) :
    Calls Tryz.prog 14 #[.agg #[.int .i64 1, .int .i64 4, .int .i64 2, .int .i64 20, .int .i64 100, .int .i64 600, .int .i64 3, .pointer (some ⟨L.p, 0, none⟩), .int .i64 0], .int .u64 65536, .bool false] w fun e w' => ∃ (st : Int) (s' : Mm), e = .returned (.agg #[.int .i64 3, .int .u64 0, .int .i64 0, .int .i64 st]) ∧ Farm w0 w' L bE 1 4 2 20 100 s' (σ + 1) qb 1 (upd (fun _ => 1) 0 2) ([] ++ []) ∧ Only L.has w w' ∧ s'.wd = s.wd := by
  have hh := handIs (x := 0) (G := 1) (by decide) (by decide) (by decide)
  rw [packH01] at hh
  exact f.dead (own := false) a hh (by decide) qb_dead hσ
end

set_option maxHeartbeats 1000000 in
theorem awake09_any (w : World) :
    Calls Tryz.prog 10 #[] w fun e w' => e = .returned (.bool true) ∧ Below w.heap.size w w' := by
  have ar := arena08 good1 (by omega)
  have f0 : ∀ (a1 a2 a3 a4 : Value) (w : World), (Instr.field 39 (.agg #[a1, a2, a3, a4]) 0).run Tryz.prog w = .ok a1 w := fun a1 a2 a3 a4 w => by kernel_rfl
  have f1 : ∀ (a1 a2 a3 a4 : Value) (w : World), (Instr.field 39 (.agg #[a1, a2, a3, a4]) 1).run Tryz.prog w = .ok a2 w := fun a1 a2 a3 a4 w => by kernel_rfl
  go_enter Tryz.func10, Tryz.ntmps10
  go_wp2_with (first
    | (go_at_call 9; refine (ar _).mono ?_; rintro e w1 ⟨L, s, rfl, m1, t1, b1, l1⟩; obtain ⟨p1, pa⟩ := Farm.first good1 m1 t1 b1 l1; have y0 := p1.v.c0; have y1 := p1.v.c1; have y2 := p1.v.c2; have y3 := p1.v.c3; have y4 := p1.v.c4; have y5 := p1.v.c5; have y6 := p1.v.c6; have y7 := p1.v.c7; have y8 := p1.v.c8)
    | (go_at_call 11; refine (aw_make p1 pa (by decide)).mono ?_; rintro e w2 ⟨st2, s2, σ2, rfl, h2, p2, o2⟩; have z0 := p2.v.c0; have z1 := p2.v.c1; have z2 := p2.v.c2; have z3 := p2.v.c3; have z4 := p2.v.c4; have z5 := p2.v.c5; have z6 := p2.v.c6; have z7 := p2.v.c7; have z8 := p2.v.c8)
    | (go_at_call 14; refine (aw_gone p2 pa (by omega)).mono ?_; rintro e w3 ⟨st3, s3, σ3, rfl, h3, p3, o3⟩; have v0 := p3.v.c0; have v1 := p3.v.c1; have v2 := p3.v.c2; have v3 := p3.v.c3; have v4 := p3.v.c4; have v5 := p3.v.c5; have v6 := p3.v.c6; have v7 := p3.v.c7; have v8 := p3.v.c8; clear p2)
    | (go_at_call 14; refine (aw_dead p3 pa (by omega)).mono ?_; rintro e w4 ⟨st4, s4, rfl, p4, o4, -⟩))
  go_ret
  exact ⟨rfl, p4.b⟩

end Go.Proofs.YtbmiieaakbcncaaGreat

/- Many who let one object go, in an array of pointers: where they lie, and what a step of one of them leaves. -/
namespace Go.Proofs.YtbmiieaakbcncaaGreat
open Go.RowKit

theorem ogrow {w a b : World} {S : Nat → Prop} (h : Below w.heap.size w a) (o : Only S a b) (hc : ∀ k, S k → w.heap.size ≤ k) : Below w.heap.size w b :=
  ⟨o.os.trans h.os, o.tape.trans h.tape, o.output.trans h.output, Nat.le_trans h.size o.size, fun k hk => (o.block k (Nat.lt_of_lt_of_le hk h.size) (fun hh => by have := hc k hh; omega)).trans (h.block k hk)⟩

/-- where they lie -/
structure Band (w0 w : World) (L : Loc) (E Wb Db : Nat) (s : Mm) (σ : Nat) (q : Q) (N : Nat) (P : Nat → Nat) (ps : Nat → Dp) (dn : Nat → Bool) : Prop where
  mm : MemAt w L s
  tw : Town 4 4 2 20 s σ q
  v : BoxV w E 4 4 2 20 100 600 3 L.p 0
  b : Below w0.heap.size w0 w
  ar : w.rowIs Wb 57 4 (fun a => .pointer (if a < N then some ⟨P a, 0, none⟩ else none))
  dr : w.rowIs Db 58 4 (fun a => .bool (dn a))
  at_ : ∀ a, a < N → ∃ cs u, DpAt w (P a) 0 85 cs u ∧ DpIs 4 4 2 20 65536 false 0 (ps a) u

/-- all is apart -/
structure BandApart (w0 : World) (L : Loc) (E Wb Db N : Nat) (P : Nat → Nat) : Prop where
  l0 : ∀ a, L.has a → w0.heap.size ≤ a
  e : ¬ L.has E
  w : ¬ L.has Wb
  d : ¬ L.has Db
  wd : Wb ≠ Db
  ew : E ≠ Wb
  ed : E ≠ Db
  wl : w0.heap.size ≤ Wb
  d0 : w0.heap.size ≤ Db
  p : ∀ a, a < N → ¬ L.has (P a) ∧ P a ≠ E ∧ P a ≠ Wb ∧ P a ≠ Db ∧ w0.heap.size ≤ P a
  inj : ∀ a b, a < N → b < N → P a = P b → a = b

theorem hand1 : HandIs 65536 0 1 := by
  have hh := handIs (x := 0) (G := 1) (by decide) (by decide) (by decide)
  rwa [packH01] at hh

theorem goodB : Good 4 4 2 20 100 600 3 := goodp (by omega) (by omega) (by omega) (by omega)

section
variable {w0 w w' : World} {L : Loc} {E Wb Db σ N : Nat} {s : Mm} {q : Q} {P : Nat → Nat} {ps : Nat → Dp} {dn : Nat → Bool}

theorem Band.grown (B : Band w0 w L E Wb Db s σ q N P ps dn) (g : Below w.heap.size w w') : Band w0 w' L E Wb Db s σ q N P ps dn :=
  ⟨B.mm.below g, B.tw, B.v.grown g, grow B.b g, B.ar.of_block (g.block _ B.ar.lt), B.dr.of_block (g.block _ B.dr.lt), fun a ha => by obtain ⟨cs, u, h1, h2⟩ := B.at_ a ha; exact ⟨cs, u, h1.grown g, h2⟩⟩
theorem Band.drew (B : Band w0 w L E Wb Db s σ q N P ps dn) : Band w0 w.drew L E Wb Db s σ q N P ps dn := B.grown ((Below.refl _ _).drew)

theorem Band.step (B : Band w0 w L E Wb Db s σ q N P ps dn) (Ap : BandApart w0 L E Wb Db N P) {K : Nat} (hK : K < N) (hσ : σ < 1000000) (hwd : ∀ a, Wd (q.dw a)) (hg : (ps K).good 4 4 2 20 0 1 q) (ho : (ps K).over? = false) {q' : Q} {α' : Dp} (ht : dpTurn 4 4 2 20 100 false 0 1 q (ps K) = (q', α')) {d : Bool} (hd : α'.over? = d) :
    Calls Tryz.prog 23 #[.pointer (some ⟨P K, 0, none⟩), .agg #[.int .i64 4, .int .i64 4, .int .i64 2, .int .i64 20, .int .i64 100, .int .i64 600, .int .i64 3, .pointer (some ⟨L.p, 0, none⟩), .int .i64 0]] w fun e w' => e = .returned (.bool d) ∧ ∃ s', Band w0 w' L E Wb Db s' (σ + 1) q' N P (upd ps K α') dn := by
  obtain ⟨cs, u, dp, is⟩ := B.at_ K hK
  obtain ⟨p1, p2, p3, p4, p5⟩ := Ap.p K hK
  refine (drop_step (t := 4) (n := 4) (k := 2) (m := 20) B.mm p1 B.tw goodB hσ hwd hand1 (by decide) (ps K) dp is hg ho 0 q' α' ht d hd).mono ?_
  rintro e w' ⟨rfl, s', cs', u', D⟩
  refine ⟨rfl, s', D.mm, D.tw, B.v.only D.only (fun h => h.elim Ap.e (fun e => p2 e.symm)), ogrow B.b D.only (fun a h => h.elim (Ap.l0 a) (fun e => e ▸ p5)), B.ar.of_block (D.only.block _ B.ar.lt (fun h => h.elim Ap.w (fun e => p3 e.symm))), B.dr.of_block (D.only.block _ B.dr.lt (fun h => h.elim Ap.d (fun e => p4 e.symm))), fun a ha => ?_⟩
  by_cases ea : a = K
  · subst ea; rw [upd_same]; exact ⟨cs', u', D.dp, D.is⟩
  · rw [upd_other _ _ _ _ ea]
    obtain ⟨cs2, u2, h1, h2⟩ := B.at_ a ha
    exact ⟨cs2, u2, h1.only D.only (fun h => h.elim (Ap.p a ha).1 (fun e => ea (Ap.inj a K ha hK e))), h2⟩

theorem Band.setD (B : Band w0 w L E Wb Db s σ q N P ps dn) (Ap : BandApart w0 L E Wb Db N P) (K : Nat) (x : Bool) : Band w0 (w.setCell ⟨Db, K, none⟩ (.bool x)) L E Wb Db s σ q N P ps (upd dn K x) :=
  ⟨B.mm.setIn Ap.d _ _, B.tw, B.v.setIn Ap.ed _ _, below_setIn B.b Ap.d0 _ _, B.ar.setOther Ap.wd _, (B.dr.set K _).congr fun j _ => (by
      by_cases e : j = K
      · subst e; simp [upd_same]
      · simp [upd_other _ _ _ _ e, e]), fun a ha => by obtain ⟨cs, u, h1, h2⟩ := B.at_ a ha; exact ⟨cs, u, h1.other (Ap.p a ha).2.2.2.1 _ _, h2⟩⟩

/-- one more begins -/
theorem Band.more (B : Band w0 w L E Wb Db s σ q N P ps dn) (Ap : BandApart w0 L E Wb Db N P) :
    Band w0 ((w.alloc (drop0 65536 false)).setCell ⟨Wb, N, none⟩ (.pointer (some ⟨w.heap.size, 0, none⟩))) L E Wb Db s σ q (N + 1) (upd P N w.heap.size) (upd ps N .see) dn ∧ BandApart w0 L E Wb Db (N + 1) (upd P N w.heap.size) := by
  have hE : E < w.heap.size := World.block_lt_of_cell? _ _ B.v.c0
  have hW := B.ar.lt
  have hD := B.dr.lt
  have hlt : ∀ a, a < N → P a < w.heap.size := fun a ha => by obtain ⟨cs, u, h1, h2⟩ := B.at_ a ha; exact h1.lt
  have g := grow1 w (drop0 65536 false)
  have B' := B.grown g
  refine ⟨⟨B'.mm.setIn Ap.w _ _, B.tw, B'.v.setIn Ap.ew _ _, below_setIn B'.b Ap.wl _ _, (B'.ar.set N _).congr fun j hj => ?_, B'.dr.setOther (fun e => Ap.wd e.symm) _, fun a ha => ?_⟩, ⟨Ap.l0, Ap.e, Ap.w, Ap.d, Ap.wd, Ap.ew, Ap.ed, Ap.wl, Ap.d0, fun a ha => ?_, fun a b ha hb e => ?_⟩⟩
  · by_cases e : j = N
    · subst e; simp [upd_same]
    · by_cases h : j < N
      · simp [e, h, upd_other _ _ _ _ e, show j < N + 1 by omega]
      · simp [e, h, show ¬ j < N + 1 by omega]
  · by_cases e : a = N
    · subst e
      rw [upd_same, upd_same]
      obtain ⟨cs, h⟩ := drop0_at 65536 false w
      exact ⟨cs, _, h.other (by omega) _ _, dp0_is 4 4 2 20 65536 false 0⟩
    · rw [upd_other _ _ _ _ e, upd_other _ _ _ _ e]
      obtain ⟨cs, u, h1, h2⟩ := B'.at_ a (by omega)
      exact ⟨cs, u, h1.other (Ap.p a (by omega)).2.2.1 _ _, h2⟩
  · by_cases e : a = N
    · subst e
      rw [upd_same]
      exact ⟨fun h => by have := B.mm.lt _ h; omega, by omega, by omega, by omega, B.b.size⟩
    · rw [upd_other _ _ _ _ e]; exact Ap.p a (by omega)
  · by_cases ea : a = N
    · by_cases eb : b = N
      · omega
      · subst ea
        rw [upd_same, upd_other _ _ _ _ eb] at e
        have := hlt b (by omega)
        omega
    · by_cases eb : b = N
      · subst eb
        rw [upd_same, upd_other _ _ _ _ ea] at e
        have := hlt a (by omega)
        omega
      · rw [upd_other _ _ _ _ ea, upd_other _ _ _ _ eb] at e
        exact Ap.inj a b (by omega) (by omega) e
end

/-- which one of so many is picked -/
theorem pickN (z : Int) (N : Nat) (h0 : 1 ≤ N) : ∃ K : Nat, (z.tmod N + N).tmod N = (K : Int) ∧ K < N ∧ -(N : Int) < z.tmod N ∧ z.tmod N < N := by
  have h1 : -(N : Int) < z.tmod N := Int.lt_tmod_of_pos z (by omega)
  have h3 : z.tmod N < N := Int.tmod_lt_of_pos z (by omega)
  have h4 := Int.emod_nonneg (z.tmod N + N) (b := (N : Int)) (by omega)
  have h5 := Int.emod_lt_of_pos (z.tmod N + N) (b := (N : Int)) (by omega)
  exact ⟨((z.tmod N + N) % N).toNat, by rw [Int.tmod_eq_emod_of_nonneg (by omega)]; omega, by omega, h1, h3⟩
theorem remN (i N : Nat) : ((i : Int).tmod N) = ((i % N : Nat) : Int) := by
  rw [Int.tmod_eq_emod_of_nonneg (by omega)]; rfl

end Go.Proofs.YtbmiieaakbcncaaGreat
