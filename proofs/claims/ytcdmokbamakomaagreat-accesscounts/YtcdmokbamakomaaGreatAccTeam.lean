/- Several who read and lay the word of one object, in an array of pointers: where they lie, and what a step of one of them leaves. -/
import Derived.Test.YtcdmokbamakomaaGreatAccRun
import Derived.Test.YtcdmokbamakomaaGreatAccCrowd
namespace Go.Proofs.YtcdmokbamakomaaGreat
open Go.RowKit

theorem ogrow' {w a b : World} {S : Nat → Prop} (h : Below w.heap.size w a) (o : Only S a b) (hc : ∀ k, S k → w.heap.size ≤ k) : Below w.heap.size w b :=
  ⟨o.os.trans h.os, o.tape.trans h.tape, o.output.trans h.output, Nat.le_trans h.size o.size, fun k hk => (o.block k (Nat.lt_of_lt_of_le hk h.size) (fun hh => by have := hc k hh; omega)).trans (h.block k hk)⟩

/-- a pointer to one of them, or to none -/
def ptrOf : Option Nat → Value
  | some b => .pointer (some ⟨b, 0, none⟩)
  | none => .pointer none

/-- where they lie -/
structure Team (w0 w : World) (L : Loc) (E Wb Db : Nat) (T1 T2 : TypeId) (na : Nat) (s : Mm) (σ : Nat) (q : Q) (P : Nat → Option Nat) (ps : Nat → Ac) (Ws : Nat → Wt) (dn : Nat → Value) : Prop where
  mm : MemAt w L s
  tw : Town 4 4 2 20 s σ q
  v : BoxV w E 4 4 2 20 100 600 3 L.p 0
  b : Below w0.heap.size w0 w
  ar : w.rowIs Wb T1 na (fun a => ptrOf (P a))
  dr : w.rowIs Db T2 na dn
  at_ : ∀ a b, P a = some b → ∃ cs u, AcAt w b 0 75 cs u ∧ AcIs (Ws a) false (ps a) u

/-- all is apart -/
structure TeamApart (w0 : World) (L : Loc) (E Wb Db : Nat) (P : Nat → Option Nat) : Prop where
  l0 : ∀ a, L.has a → w0.heap.size ≤ a
  e : ¬ L.has E
  w : ¬ L.has Wb
  d : ¬ L.has Db
  wd : Wb ≠ Db
  ew : E ≠ Wb
  ed : E ≠ Db
  wl : w0.heap.size ≤ Wb
  d0 : w0.heap.size ≤ Db
  p : ∀ a b, P a = some b → ¬ L.has b ∧ b ≠ E ∧ b ≠ Wb ∧ b ≠ Db ∧ w0.heap.size ≤ b
  inj : ∀ a a' b, P a = some b → P a' = some b → a = a'

theorem handA : HandIs 65536 0 1 := by
  have hh := handIs (x := 0) (G := 1) (by decide) (by decide) (by decide)
  rwa [packH01] at hh

theorem goodA : Good 4 4 2 20 100 600 3 := goodp (by omega) (by omega) (by omega) (by omega)

section
variable {w0 w w' : World} {L : Loc} {E Wb Db σ na : Nat} {T1 T2 : TypeId} {s : Mm} {q : Q} {P : Nat → Option Nat} {ps : Nat → Ac} {Ws : Nat → Wt} {dn : Nat → Value}

theorem Team.grown (B : Team w0 w L E Wb Db T1 T2 na s σ q P ps Ws dn) (g : Below w.heap.size w w') : Team w0 w' L E Wb Db T1 T2 na s σ q P ps Ws dn :=
  ⟨B.mm.below g, B.tw, B.v.grown g, grow B.b g, B.ar.of_block (g.block _ B.ar.lt), B.dr.of_block (g.block _ B.dr.lt), fun a b ha => by obtain ⟨cs, u, h1, h2⟩ := B.at_ a b ha; exact ⟨cs, u, h1.grown g, h2⟩⟩
theorem Team.drew (B : Team w0 w L E Wb Db T1 T2 na s σ q P ps Ws dn) : Team w0 w.drew L E Wb Db T1 T2 na s σ q P ps Ws dn := B.grown ((Below.refl _ _).drew)

theorem Team.step (B : Team w0 w L E Wb Db T1 T2 na s σ q P ps Ws dn) (Ap : TeamApart w0 L E Wb Db P) {K p : Nat} (hK : P K = some p) (hσ : σ < 1000000) (hwd : ∀ a, Wd (q.dw a)) (hW : (Ws K).ok) (hnu : (Ws K).nu = 65536) (hg : (ps K).good 4 4 2 20 (Ws K) 0 1 q) (ho : (ps K).over? = false) {q' : Q} {α' : Ac} (ht : acTurn (Ws K) false 0 1 σ q (ps K) = (q', α')) {d : Bool} (hd : α'.over? = d) :
    Calls Tryz.prog 16 #[.pointer (some ⟨p, 0, none⟩), .agg #[.int .i64 4, .int .i64 4, .int .i64 2, .int .i64 20, .int .i64 100, .int .i64 600, .int .i64 3, .pointer (some ⟨L.p, 0, none⟩), .int .i64 0]] w fun e w' => e = .returned (.bool d) ∧ ∃ s', Team w0 w' L E Wb Db T1 T2 na s' (σ + 1) q' P (upd ps K α') Ws dn := by
  obtain ⟨cs, u, dp, is⟩ := B.at_ K p hK
  obtain ⟨p1, p2, p3, p4, p5⟩ := Ap.p K p hK
  refine (access_step (t := 4) (n := 4) (k := 2) (m := 20) B.mm p1 B.tw goodA hσ hwd (by rw [hnu]; exact handA) (by decide) hW (ps K) dp is hg ho 0 q' α' ht d hd).mono ?_
  rintro e w' ⟨rfl, s', cs', u', D⟩
  refine ⟨rfl, s', D.mm, D.tw, B.v.only D.only (fun h => h.elim Ap.e (fun e => p2 e.symm)), ogrow' B.b D.only (fun a h => h.elim (Ap.l0 a) (fun e => e ▸ p5)), B.ar.of_block (D.only.block _ B.ar.lt (fun h => h.elim Ap.w (fun e => p3 e.symm))), B.dr.of_block (D.only.block _ B.dr.lt (fun h => h.elim Ap.d (fun e => p4 e.symm))), fun a b ha => ?_⟩
  by_cases ea : a = K
  · subst ea
    obtain rfl : p = b := by rw [hK] at ha; cases ha; rfl
    rw [upd_same]; exact ⟨cs', u', D.ac, D.is⟩
  · rw [upd_other _ _ _ _ ea]
    obtain ⟨cs2, u2, h1, h2⟩ := B.at_ a b ha
    exact ⟨cs2, u2, h1.only D.only (fun h => h.elim (Ap.p a b ha).1 (fun e => ea (Ap.inj a K p (by rw [ha, e]) hK))), h2⟩

/-- one that is done tells what it came to -/
theorem Team.done (B : Team w0 w L E Wb Db T1 T2 na s σ q P ps Ws dn) {K p : Nat} (hK : P K = some p) {E' val : Int} {st : Nat} (h : ps K = .over E' val st) :
    Calls Tryz.prog 17 #[.pointer (some ⟨p, 0, none⟩)] w fun e w' => e = .returned (.agg #[.int .i64 E', .int .u64 0, .int .i64 val, .int .i64 st]) ∧ Below w.heap.size w w' := by
  obtain ⟨cs, u, dp, is⟩ := B.at_ K p hK
  rw [h] at is
  obtain ⟨h1, h2, h3, h4⟩ := is.sec
  have k := adone_any dp
  rwa [h1, h2, h3, h4] at k

theorem Team.setD (B : Team w0 w L E Wb Db T1 T2 na s σ q P ps Ws dn) (Ap : TeamApart w0 L E Wb Db P) (K : Nat) (x : Value) : Team w0 (w.setCell ⟨Db, K, none⟩ x) L E Wb Db T1 T2 na s σ q P ps Ws (upd dn K x) :=
  ⟨B.mm.setIn Ap.d _ _, B.tw, B.v.setIn Ap.ed _ _, below_setIn B.b Ap.d0 _ _, B.ar.setOther Ap.wd _, (B.dr.set K _).congr fun j _ => (by
      by_cases e : j = K
      · subst e; simp [upd_same]
      · simp [upd_other _ _ _ _ e, e]), fun a b ha => by obtain ⟨cs, u, h1, h2⟩ := B.at_ a b ha; exact ⟨cs, u, h1.other (Ap.p a b ha).2.2.2.1 _ _, h2⟩⟩

/-- one is no more -/
theorem Team.clear (B : Team w0 w L E Wb Db T1 T2 na s σ q P ps Ws dn) (Ap : TeamApart w0 L E Wb Db P) (K : Nat) : Team w0 (w.setCell ⟨Wb, K, none⟩ (.pointer none)) L E Wb Db T1 T2 na s σ q (upd P K none) ps Ws dn ∧ TeamApart w0 L E Wb Db (upd P K none) := by
  have hs : ∀ a b, upd P K none a = some b → P a = some b := fun a b h => by
    by_cases e : a = K
    · subst e; rw [upd_same] at h; cases h
    · rwa [upd_other _ _ _ _ e] at h
  refine ⟨⟨B.mm.setIn Ap.w _ _, B.tw, B.v.setIn Ap.ew _ _, below_setIn B.b Ap.wl _ _, (B.ar.set K _).congr fun j _ => ?_, B.dr.setOther (fun e => Ap.wd e.symm) _, fun a b ha => ?_⟩, ⟨Ap.l0, Ap.e, Ap.w, Ap.d, Ap.wd, Ap.ew, Ap.ed, Ap.wl, Ap.d0, fun a b ha => Ap.p a b (hs a b ha), fun a a' b h1 h2 => Ap.inj a a' b (hs a b h1) (hs a' b h2)⟩⟩
  · by_cases e : j = K
    · subst e; simp [upd_same, ptrOf]
    · simp [upd_other _ _ _ _ e, e]
  · obtain ⟨cs, u, h1, h2⟩ := B.at_ a b (hs a b ha)
    exact ⟨cs, u, h1.other (Ap.p a b (hs a b ha)).2.2.1 _ _, h2⟩

/-- one more begins -/
theorem Team.more (B : Team w0 w L E Wb Db T1 T2 na s σ q P ps Ws dn) (Ap : TeamApart w0 L E Wb Db P) (K : Nat) (W : Wt) :
    Team w0 ((w.alloc (acc0 W.kd W.nu W.ix W.vl W.ol false)).setCell ⟨Wb, K, none⟩ (.pointer (some ⟨w.heap.size, 0, none⟩))) L E Wb Db T1 T2 na s σ q (upd P K (some w.heap.size)) (upd ps K .see) (upd Ws K W) dn ∧ TeamApart w0 L E Wb Db (upd P K (some w.heap.size)) := by
  have hE : E < w.heap.size := World.block_lt_of_cell? _ _ B.v.c0
  have hW := B.ar.lt
  have hD := B.dr.lt
  have hlt : ∀ a b, P a = some b → b < w.heap.size := fun a b ha => by obtain ⟨cs, u, h1, h2⟩ := B.at_ a b ha; exact h1.lt
  have g := grow1 w (acc0 W.kd W.nu W.ix W.vl W.ol false)
  have B' := B.grown g
  have hs : ∀ a b, upd P K (some w.heap.size) a = some b → (a = K ∧ b = w.heap.size) ∨ (a ≠ K ∧ P a = some b) := fun a b h => by
    by_cases e : a = K
    · subst e; rw [upd_same] at h; cases h; exact Or.inl ⟨rfl, rfl⟩
    · rw [upd_other _ _ _ _ e] at h; exact Or.inr ⟨e, h⟩
  refine ⟨⟨B'.mm.setIn Ap.w _ _, B.tw, B'.v.setIn Ap.ew _ _, below_setIn B'.b Ap.wl _ _, (B'.ar.set K _).congr fun j hj => ?_, B'.dr.setOther (fun e => Ap.wd e.symm) _, fun a b ha => ?_⟩, ⟨Ap.l0, Ap.e, Ap.w, Ap.d, Ap.wd, Ap.ew, Ap.ed, Ap.wl, Ap.d0, fun a b ha => ?_, fun a a' b h1 h2 => ?_⟩⟩
  · by_cases e : j = K
    · subst e; simp [upd_same, ptrOf]
    · simp [e, upd_other _ _ _ _ e]
  · rcases hs a b ha with ⟨rfl, rfl⟩ | ⟨e, h⟩
    · rw [upd_same, upd_same]
      obtain ⟨cs, h⟩ := acc0_at W.kd W.nu W.ix W.vl W.ol false w
      exact ⟨cs, _, h.other (by omega) _ _, ac0_is W false⟩
    · rw [upd_other _ _ _ _ e, upd_other _ _ _ _ e]
      obtain ⟨cs, u, h1, h2⟩ := B'.at_ a b h
      exact ⟨cs, u, h1.other (Ap.p a b h).2.2.1 _ _, h2⟩
  · rcases hs a b ha with ⟨rfl, rfl⟩ | ⟨e, h⟩
    · exact ⟨fun h => by have := B.mm.lt _ h; omega, by omega, by omega, by omega, B.b.size⟩
    · exact Ap.p a b h
  · rcases hs a b h1 with ⟨rfl, rfl⟩ | ⟨e, h⟩
    · rcases hs a' _ h2 with ⟨rfl, _⟩ | ⟨e', h'⟩
      · rfl
      · have := hlt a' _ h'; omega
    · rcases hs a' b h2 with ⟨rfl, rfl⟩ | ⟨e', h'⟩
      · have := hlt a _ h; omega
      · exact Ap.inj a a' b h h'
end

end Go.Proofs.YtcdmokbamakomaaGreat
