/- One who reads or lays a word while the object is let go, told without a program. -/
import Derived.Test.YtcdmokbamakomaaGreatAccSolo
import Derived.Test.YtcdmokbamakomaaGreatDropTell
namespace Go.Proofs.YtcdmokbamakomaaGreat
open Go.RowKit

/-- what is wanted: to read, or to lay 7 -/
structure WtD (W : Wt) : Prop where
  k : W.kd = 1 ∨ W.kd = 2
  i : W.ix = 0
  v : 0 ≤ W.vl ∧ W.vl ≤ 1099511627775
  n : W.nu = 65536

/-- the object lives -/
structure LiveD (v : Int) (q : Q) : Prop where
  s : Solo 4 4 2 20 0 1 2 0 v q
  st : v % 8 = 1
  vr : verOf' v = 0
  lv : room (classOf (2 : Nat)).toNat ≤ q.lv 0
  nf : 0 ∉ q.F

/-- it was let go -/
structure DeadD (v : Int) (q : Q) : Prop where
  d : (lifeB (q.sw 0 % 8) && decide (genOf (q.sw 0) = 1)) = false
  o : Obj9 4 4 2 20 v 2 0
  sz : szOf (q.dw (adOf v)) = 2
  ow : ownOf (q.dw (adOf v)) = false
  wd : ∀ a, Wd (q.dw a)
  st : v % 8 = 1
  vr : verOf' v = 0
  fz : frB (q.dw (adOf v + 1)) = true
  cr : crOf (q.dw (adOf v + 1)) = 1

def AcL (W : Wt) (v : Int) (q : Q) (σ : Nat) : Ac → Prop
  | .see => True
  | .ask v' _ => v' = v
  | .load v' Z => v' = v ∧ Z = 2
  | .check v' c ld => v' = v ∧ Wd c ∧ ld ≤ σ
  | .lay v' c => v' = v ∧ c = q.dw (adOf v + 1) ∧ W.kd = 2
  | _ => False

def AcG (v : Int) : Ac → Prop
  | .see => True
  | .ask v' _ => v' = v
  | .load v' Z => v' = v ∧ Z = 2
  | .check v' c _ => v' = v ∧ Wd c
  | .lay v' c => v' = v ∧ Wd c ∧ frB c = false
  | _ => False

def rkG : Ac → Nat
  | .see => 1
  | .ask _ _ => 3
  | .load _ _ => 2
  | .check _ _ _ => 1
  | .lay _ _ => 2
  | _ => 0

section
variable {v : Int} {q q' : Q} {W : Wt} {σ : Nat} {α α' : Ac}

theorem WtD.at (h : WtD W) : W.at v = adOf v + 1 := by unfold Wt.at; rw [h.i]; rfl
theorem WtD.oth (h : WtD W) (c : Int) : W.other c = false := by
  unfold Wt.other
  rcases h.k with e | e <;> rw [e] <;> rfl

theorem live_step (hW : WtD W) (I : LiveD v q) (T : AcL W v q σ α) (ht : acTurn W false 0 1 σ q α = (q', α')) :
    α.over? = false ∧ α.good 4 4 2 20 W 0 1 q ∧ LiveD v q' ∧ ((α'.over? = false ∧ AcL W v q' (σ + 1) α' ∧ rk3 α' + 1 ≤ rk3 α) ∨ ∃ val st, α' = .over 0 val st ∧ st ≤ σ + 1) := by
  have S := I.s
  have h0 : (0 : Int) ≤ W.ix := by rw [hW.i]; exact Int.le_refl _
  have h1 : W.ix < ((2 : Nat) : Int) := by rw [hW.i]; decide
  have hat := hW.at (v := v)
  have mono : ∀ α : Ac, AcL W v q σ α → AcL W v q (σ + 1) α := fun α h => by
    cases α with
    | check v' c ld => exact ⟨h.1, h.2.1, by have := h.2.2; omega⟩
    | _ => exact h
  cases α with
  | over => exact T.elim
  | stop => exact T.elim
  | see =>
    rw [S.sc.turn_see] at ht
    obtain ⟨rfl, rfl⟩ := Prod.mk.inj ht
    exact ⟨rfl, S.sc.good_see, I, Or.inl ⟨rfl, rfl, by simp [rk3]⟩⟩
  | ask v' a =>
    have hv : v' = v := T
    subst hv
    rw [S.sc.turn_ask h0 h1] at ht
    obtain ⟨rfl, rfl⟩ := Prod.mk.inj ht
    exact ⟨rfl, S.sc.good_ask _, I, Or.inl ⟨rfl, ⟨rfl, rfl⟩, by simp [rk3]⟩⟩
  | load v' Z =>
    obtain ⟨hv, rfl⟩ := T
    subst hv
    have gd : Ac.good 4 4 2 20 W 0 1 q (.load v' 2) := ⟨⟨0, S.sc.o⟩, h0, h1, S.sc.st⟩
    have cv := S.at_val (W := W) h0 h1
    simp only [acTurn] at ht
    obtain ⟨rfl, hα⟩ := Prod.mk.inj ht
    cases hr : W.reads (q.dw (W.at v')) with
    | true =>
      simp only [acLoad, hr, if_true] at hα
      subst hα
      exact ⟨rfl, gd, I, Or.inl ⟨rfl, ⟨rfl, S.sc.wd _, Nat.le_refl _⟩, by simp [rk3]⟩⟩
    | false =>
      simp only [acLoad, hr, frB_val cv.2, Bool.false_and, Bool.false_eq_true, if_false] at hα
      subst hα
      refine ⟨rfl, gd, I, Or.inl ⟨rfl, ⟨rfl, by rw [hat], ?_⟩, by simp [rk3]⟩⟩
      rcases hW.k with e | e
      · unfold Wt.reads at hr
        rw [e] at hr
        simp at hr
      · exact e
  | check v' c ld =>
    obtain ⟨hv, wc, hl⟩ := T
    subst hv
    rw [S.sc.turn_check, hW.oth, if_neg (by decide)] at ht
    obtain ⟨rfl, rfl⟩ := Prod.mk.inj ht
    exact ⟨rfl, ⟨S.sc.o.wd, wc⟩, I, Or.inr ⟨_, _, rfl, by omega⟩⟩
  | lay v' c =>
    obtain ⟨hv, hc, hk⟩ := T
    subst hv
    have gd : Ac.good 4 4 2 20 W 0 1 q (.lay v' c) := ⟨⟨2, 0, S.sc.o, h1⟩, h0, by rw [hc]; exact S.sc.wd _⟩
    simp only [acTurn, hat, hc, if_true] at ht
    obtain ⟨rfl, rfl⟩ := Prod.mk.inj ht
    have S2 := S.lay (W := W) hW.v
    rw [hat] at S2
    exact ⟨rfl, gd, ⟨S2, I.st, I.vr, I.lv, I.nf⟩, Or.inr ⟨_, _, rfl, Nat.le_refl _⟩⟩

theorem dead_step (hW : WtD W) (I : DeadD v q) (T : AcG v α) (ht : acTurn W false 0 1 σ q α = (q', α')) :
    α.over? = false ∧ α.good 4 4 2 20 W 0 1 q ∧ q' = q ∧ ((α'.over? = false ∧ AcG v α' ∧ rkG α' + 1 ≤ rkG α) ∨ ∃ val, α' = .over 3 val (σ + 1)) := by
  have h0 : (0 : Int) ≤ W.ix := by rw [hW.i]; exact Int.le_refl _
  have h1 : W.ix < ((2 : Nat) : Int) := by rw [hW.i]; decide
  have hat := hW.at (v := v)
  cases α with
  | over => exact T.elim
  | stop => exact T.elim
  | see =>
    simp only [acTurn, I.d, Bool.false_eq_true, if_false] at ht
    obtain ⟨rfl, rfl⟩ := Prod.mk.inj ht
    refine ⟨rfl, fun a1 a2 => ?_, rfl, Or.inr ⟨_, rfl⟩⟩
    have := I.d
    rw [a1, a2] at this
    simp at this
  | ask v' a =>
    have hv : v' = v := T
    subst hv
    have e : acTurn W false 0 1 σ q (.ask v' a) = (q, .load v' 2) := by
      simp only [acTurn, acAsk, I.ow, I.sz, beq_self_eq_true, if_true, h0, h1, and_self]
    rw [e] at ht
    obtain ⟨rfl, rfl⟩ := Prod.mk.inj ht
    exact ⟨rfl, ⟨0, by rw [I.sz]; exact I.o⟩, rfl, Or.inl ⟨rfl, ⟨rfl, rfl⟩, by simp [rkG]⟩⟩
  | load v' Z =>
    obtain ⟨hv, rfl⟩ := T
    subst hv
    have gd : Ac.good 4 4 2 20 W 0 1 q (.load v' 2) := ⟨⟨0, I.o⟩, h0, h1, by rw [I.st]; decide⟩
    simp only [acTurn, hat] at ht
    obtain ⟨rfl, hα⟩ := Prod.mk.inj ht
    cases hr : W.reads (q.dw (adOf v' + 1)) with
    | true =>
      simp only [acLoad, hr, if_true] at hα
      subst hα
      exact ⟨rfl, gd, rfl, Or.inl ⟨rfl, ⟨rfl, I.wd _⟩, by simp [rkG]⟩⟩
    | false =>
      have hs : acLoad W σ v' (q.dw (adOf v' + 1)) = .see := by
        unfold acLoad
        rw [hr, if_neg (by decide), I.fz, I.cr, I.vr, I.st]
        simp
      rw [hs] at hα
      subst hα
      exact ⟨rfl, gd, rfl, Or.inl ⟨rfl, trivial, by simp [rkG]⟩⟩
  | check v' c ld =>
    obtain ⟨hv, wc⟩ := T
    subst hv
    simp only [acTurn, acCheck, I.d, Bool.false_eq_true, if_false] at ht
    obtain ⟨rfl, rfl⟩ := Prod.mk.inj ht
    exact ⟨rfl, ⟨I.o.wd, wc⟩, rfl, Or.inr ⟨_, rfl⟩⟩
  | lay v' c =>
    obtain ⟨hv, wc, hf⟩ := T
    subst hv
    have gd : Ac.good 4 4 2 20 W 0 1 q (.lay v' c) := ⟨⟨2, 0, I.o, h1⟩, h0, wc⟩
    have hne : ¬ q.dw (adOf v' + 1) = c := fun e => by
      have := I.fz
      rw [e, hf] at this
      cases this
    simp only [acTurn, hat, hne, if_false] at ht
    obtain ⟨rfl, rfl⟩ := Prod.mk.inj ht
    exact ⟨rfl, gd, rfl, Or.inl ⟨rfl, trivial, by simp [rkG]⟩⟩

theorem AcL.gone (I : LiveD v q) (T : AcL W v q σ α) : AcG v α ∧ rkG α ≤ 3 := by
  cases α with
  | over => exact T.elim
  | stop => exact T.elim
  | see => exact ⟨trivial, by simp [rkG]⟩
  | ask v' a => exact ⟨T, by simp [rkG]⟩
  | load v' Z => exact ⟨T, by simp [rkG]⟩
  | check v' c ld => exact ⟨⟨T.1, T.2.1⟩, by simp [rkG]⟩
  | lay v' c =>
    have cv := I.s.cl 0 (by decide)
    exact ⟨⟨T.1, by rw [T.2.1]; exact I.s.sc.wd _, by rw [T.2.1]; exact frB_val cv.2⟩, by simp [rkG]⟩

theorem froz_val {c : Int} (h0 : 0 ≤ c) (h1 : c ≤ 1099511627775) : frB (froze c 1) = true ∧ crOf (froze c 1) = 1 := by
  have e : froze c 1 = c + 1 * 1099511627776 + 9223372036854775808 := by
    unfold froze packX
    rw [if_pos rfl, Int.emod_eq_of_lt h0 (by omega), cut_id c 40 h0 (by simp; omega)]
    rfl
  rw [e]
  unfold frB crOf
  exact ⟨decide_eq_true (by omega), by rw [if_pos (by omega)]; omega⟩

/-- to let it go -/
theorem LiveD.runs (I : LiveD v q) (hh : hd q.F ≤ 4) : DTells 4 4 2 20 100 false 0 1 12 q .see (q.gone 100 0 v 2 0) (.over 0) ∧ DeadD v (q.gone 100 0 v 2 0) := by
  have S := I.s.sc
  have hsw := S.sw
  have cells : ∀ j, j < 2 → frozenIn (q.dw (adOf v + 1 + j)) (verOf' v + 1) = false := fun j hj => by
    have cv := I.s.cl j hj
    unfold frozenIn
    rw [decide_eq_false (by omega)]; rfl
  have r := tells_gone (t := 4) (n := 4) (k := 2) (m := 20) (cg := 100) (own := false) (x := 0) (G := 1) (q := q) (Z := 2) (i := 0) (by rw [hsw]; exact S.o) S.wd (by rw [hsw]; exact S.sz) (by rw [hsw]; exact S.ow) (by rw [hsw]; exact S.gn) (by rw [hsw]; exact S.st) (by rw [hsw, I.vr]; decide) (fun j hj => by rw [hsw]; exact cells j hj) I.lv I.nf hh (by decide)
  rw [hsw] at r
  have c0 := I.s.cl 0 (by decide)
  have fz := froz_val c0.1 c0.2
  have hdw : (q.gone 100 0 v 2 0).dw (adOf v + 1) = froze (q.dw (adOf v + 1)) 1 := by
    show frz q.dw (adOf v) (verOf' v + 1) 2 (adOf v + 1) = _
    unfold frz
    rw [if_pos (by omega), I.vr]
  have hA : (q.gone 100 0 v 2 0).dw (adOf v) = q.dw (adOf v) := frz_out _ _ _ _ _ (by omega)
  refine ⟨r, ?_, S.o, by rw [hA]; exact S.sz, by rw [hA]; exact S.ow, fun a => ?_, I.st, I.vr, by rw [hdw]; exact fz.1, by rw [hdw]; exact fz.2⟩
  · have e : (q.gone 100 0 v 2 0).sw 0 = behindW 100 v := upd_same q.sw 0 (behindW 100 v)
    rw [e, behind_dead]; rfl
  · show Wd (frz q.dw _ _ _ a)
    unfold frz
    split
    · exact froze_wd _ _
    · exact S.wd a
end

/-- how often the first is picked from 60 on -/
def cntD : Nat → Nat
  | 0 => 0
  | i + 1 => cntD i + (if 60 ≤ i ∧ i % 2 = 0 then 1 else 0)
theorem cntD_200 : 60 ≤ cntD 200 := by decide +kernel

def muD (d1 : Bool) (α : Ac) : Nat := if d1 then rkG α else 4 + rk3 α

/-- so far -/
structure DI (W : Wt) (v : Int) (σ : Nat) (q : Q) (α : Ac) (d0 d1 : Bool) (g oE oSt : Int) (i : Nat) : Prop where
  ph : (d1 = false ∧ LiveD v q ∧ ((d0 = false ∧ AcL W v q σ α) ∨ (d0 = true ∧ oE = 0 ∧ oSt ≤ σ))) ∨
    (d1 = true ∧ g ≤ σ ∧ DeadD v q ∧ ((d0 = false ∧ AcG v α) ∨ (d0 = true ∧ ((oE = 0 ∧ oSt < g) ∨ (oE = 3 ∧ g ≤ oSt)))))
  mu : d0 = true ∨ muD d1 α + cntD i ≤ 8
  d1 : 62 ≤ i → d1 = true

end Go.Proofs.YtcdmokbamakomaaGreat

/- One who reads or lays a word while the object is let go: where all of it lies. -/
namespace Go.Proofs.YtcdmokbamakomaaGreat
open Go.RowKit

/-- what an act came to, in a block -/
def DnAt (w : World) (X : Nat) (E V St : Int) : Prop := ∃ cs, At w X 0 37 cs [.int .i64 E, .int .u64 0, .int .i64 V, .int .i64 St]

namespace DnAt
variable {w w' : World} {X : Nat} {E V St : Int}
theorem c0 (h : DnAt w X E V St) : w.cell? ⟨X, 0, none⟩ = some (.int .i64 E) := by obtain ⟨cs, h⟩ := h; exact h.at0 0 rfl
theorem c1 (h : DnAt w X E V St) : w.cell? ⟨X, 1, none⟩ = some (.int .u64 0) := by obtain ⟨cs, h⟩ := h; exact h.at0 1 rfl
theorem c2 (h : DnAt w X E V St) : w.cell? ⟨X, 2, none⟩ = some (.int .i64 V) := by obtain ⟨cs, h⟩ := h; exact h.at0 2 rfl
theorem c3 (h : DnAt w X E V St) : w.cell? ⟨X, 3, none⟩ = some (.int .i64 St) := by obtain ⟨cs, h⟩ := h; exact h.at0 3 rfl
theorem fz (h : DnAt w X E V St) (i : Nat) : w.frozen? ⟨X, i, none⟩ = false := by obtain ⟨cs, h⟩ := h; exact h.fz i
theorem grown (h : DnAt w X E V St) (g : Below w.heap.size w w') : DnAt w' X E V St := by obtain ⟨cs, h⟩ := h; exact ⟨cs, h.grown g⟩
theorem only {S : Nat → Prop} (h : DnAt w X E V St) (g : Only S w w') (hs : ¬ S X) : DnAt w' X E V St := by obtain ⟨cs, h⟩ := h; exact ⟨cs, h.only g hs⟩
theorem other (h : DnAt w X E V St) {k : Nat} (hk : X ≠ k) (i : Nat) (v : Value) : DnAt (w.setCell ⟨k, i, none⟩ v) X E V St := by obtain ⟨cs, h⟩ := h; exact ⟨cs, h.other hk i v⟩
theorem sets (h : DnAt w X E V St) (E' V' St' : Int) : DnAt ((((w.setCell ⟨X, 0, none⟩ (.int .i64 E')).setCell ⟨X, 1, none⟩ (.int .u64 0)).setCell ⟨X, 2, none⟩ (.int .i64 V')).setCell ⟨X, 3, none⟩ (.int .i64 St')) X E' V' St' := by
  obtain ⟨cs, h⟩ := h
  exact ⟨_, (((h.put0 0 (.int .i64 E')).put0 1 (.int .u64 0)).put0 2 (.int .i64 V')).put0 3 (.int .i64 St')⟩
end DnAt

theorem dn_new (w : World) (E V St : Int) : DnAt (w.alloc (.cells #[.int .i64 E, .int .u64 0, .int .i64 V, .int .i64 St] 37)) w.heap.size E V St := ⟨_, At.new w 37 [.int .i64 E, .int .u64 0, .int .i64 V, .int .i64 St]⟩

/-- all of it -/
structure Stg (w0 w : World) (L : Loc) (E Ab O Gb Db : Nat) (s : Mm) (σ : Nat) (q : Q) (cs : Array Value) (u : CV) (d0 d1 : Bool) (g oE oV oSt : Int) : Prop where
  sp : Spt w0 w L E 4 4 2 20 s σ q
  ac : AcAt w Ab 0 75 cs u
  o : DnAt w O oE oV oSt
  gn : DnAt w Gb 0 0 g
  dn : w.rowIs Db 52 2 (fun a => .bool (if a = 0 then d0 else d1))

/-- apart -/
structure StgA (w0 : World) (L : Loc) (E Ab O Gb Db : Nat) : Prop where
  fa : FarmApart w0 L E 4 4 2 20 100
  l : ¬ L.has Ab ∧ ¬ L.has O ∧ ¬ L.has Gb ∧ ¬ L.has Db
  z : w0.heap.size ≤ Ab ∧ w0.heap.size ≤ O ∧ w0.heap.size ≤ Gb ∧ w0.heap.size ≤ Db
  e : E ≠ Ab ∧ E ≠ O ∧ E ≠ Gb ∧ E ≠ Db
  a : Ab ≠ O ∧ Ab ≠ Gb ∧ Ab ≠ Db
  o : O ≠ Gb ∧ O ≠ Db ∧ Gb ≠ Db

section
variable {w0 w w' : World} {L : Loc} {E Ab O Gb Db σ : Nat} {s : Mm} {q : Q} {cs : Array Value} {u : CV} {d0 d1 : Bool} {g oE oV oSt : Int}

theorem Stg.grown (B : Stg w0 w L E Ab O Gb Db s σ q cs u d0 d1 g oE oV oSt) (k : Below w.heap.size w w') : Stg w0 w' L E Ab O Gb Db s σ q cs u d0 d1 g oE oV oSt :=
  ⟨B.sp.grown k, B.ac.grown k, B.o.grown k, B.gn.grown k, B.dn.of_block (k.block _ B.dn.lt)⟩

/-- a step of the one -/
theorem Stg.step (B : Stg w0 w L E Ab O Gb Db s σ q cs u d0 d1 g oE oV oSt) (A : StgA w0 L E Ab O Gb Db) {s' : Mm} {q' : Q} {cs' : Array Value} {u' : CV} (o : Only (L.and Ab) w w') (m : MemAt w' L s') (t : Town 4 4 2 20 s' (σ + 1) q') (ac : AcAt w' Ab 0 75 cs' u') : Stg w0 w' L E Ab O Gb Db s' (σ + 1) q' cs' u' d0 d1 g oE oV oSt :=
  ⟨⟨m, t, B.sp.v.only o (fun h => h.elim A.fa.e (fun e => A.e.1 e)), ⟨o.os.trans B.sp.b.os, o.tape.trans B.sp.b.tape, o.output.trans B.sp.b.output, Nat.le_trans B.sp.b.size o.size, fun k hk => (o.block k (Nat.lt_of_lt_of_le hk B.sp.b.size) (fun hh => hh.elim (fun h => by have := A.fa.l0 k h; omega) (fun e => by have := A.z.1; have e' : k = Ab := e; omega))).trans (B.sp.b.block k hk)⟩⟩,
   ac, B.o.only o (fun h => h.elim A.l.2.1 (fun e => A.a.1 e.symm)), B.gn.only o (fun h => h.elim A.l.2.2.1 (fun e => A.a.2.1 e.symm)), B.dn.of_block (o.block _ B.dn.lt (fun h => h.elim A.l.2.2.2 (fun e => A.a.2.2 e.symm)))⟩

/-- the object is let go -/
theorem Stg.gone (B : Stg w0 w L E Ab O Gb Db s σ q cs u d0 d1 g oE oV oSt) (A : StgA w0 L E Ab O Gb Db) {s' : Mm} {σ' : Nat} {q' : Q} (o : Only L.has w w') (m : MemAt w' L s') (t : Town 4 4 2 20 s' σ' q') : Stg w0 w' L E Ab O Gb Db s' σ' q' cs u d0 d1 g oE oV oSt :=
  ⟨B.sp.only A.fa o m t, B.ac.only o A.l.1, B.o.only o A.l.2.1, B.gn.only o A.l.2.2.1, B.dn.of_block (o.block _ B.dn.lt A.l.2.2.2)⟩

theorem Stg.setO (B : Stg w0 w L E Ab O Gb Db s σ q cs u d0 d1 g oE oV oSt) (A : StgA w0 L E Ab O Gb Db) (E' V' St' : Int) : Stg w0 ((((w.setCell ⟨O, 0, none⟩ (.int .i64 E')).setCell ⟨O, 1, none⟩ (.int .u64 0)).setCell ⟨O, 2, none⟩ (.int .i64 V')).setCell ⟨O, 3, none⟩ (.int .i64 St')) L E Ab O Gb Db s σ q cs u d0 d1 g E' V' St' :=
  ⟨(((B.sp.setIn A.z.2.1 A.e.2.1 A.l.2.1 _ _).setIn A.z.2.1 A.e.2.1 A.l.2.1 _ _).setIn A.z.2.1 A.e.2.1 A.l.2.1 _ _).setIn A.z.2.1 A.e.2.1 A.l.2.1 _ _,
   (((B.ac.other A.a.1 _ _).other A.a.1 _ _).other A.a.1 _ _).other A.a.1 _ _, B.o.sets E' V' St',
   (((B.gn.other A.o.1.symm _ _).other A.o.1.symm _ _).other A.o.1.symm _ _).other A.o.1.symm _ _,
   (((B.dn.setOther A.o.2.1.symm _).setOther A.o.2.1.symm _).setOther A.o.2.1.symm _).setOther A.o.2.1.symm _⟩

theorem Stg.setG (B : Stg w0 w L E Ab O Gb Db s σ q cs u d0 d1 g oE oV oSt) (A : StgA w0 L E Ab O Gb Db) (St' : Int) : Stg w0 ((((w.setCell ⟨Gb, 0, none⟩ (.int .i64 0)).setCell ⟨Gb, 1, none⟩ (.int .u64 0)).setCell ⟨Gb, 2, none⟩ (.int .i64 0)).setCell ⟨Gb, 3, none⟩ (.int .i64 St')) L E Ab O Gb Db s σ q cs u d0 d1 St' oE oV oSt :=
  ⟨(((B.sp.setIn A.z.2.2.1 A.e.2.2.1 A.l.2.2.1 _ _).setIn A.z.2.2.1 A.e.2.2.1 A.l.2.2.1 _ _).setIn A.z.2.2.1 A.e.2.2.1 A.l.2.2.1 _ _).setIn A.z.2.2.1 A.e.2.2.1 A.l.2.2.1 _ _,
   (((B.ac.other A.a.2.1 _ _).other A.a.2.1 _ _).other A.a.2.1 _ _).other A.a.2.1 _ _,
   (((B.o.other A.o.1 _ _).other A.o.1 _ _).other A.o.1 _ _).other A.o.1 _ _, B.gn.sets 0 0 St',
   (((B.dn.setOther A.o.2.2.symm _).setOther A.o.2.2.symm _).setOther A.o.2.2.symm _).setOther A.o.2.2.symm _⟩

theorem Stg.set0 (B : Stg w0 w L E Ab O Gb Db s σ q cs u d0 d1 g oE oV oSt) (A : StgA w0 L E Ab O Gb Db) (b : Bool) : Stg w0 (w.setCell ⟨Db, 0, none⟩ (.bool b)) L E Ab O Gb Db s σ q cs u b d1 g oE oV oSt :=
  ⟨B.sp.setIn A.z.2.2.2 A.e.2.2.2 A.l.2.2.2 _ _, B.ac.other A.a.2.2 _ _, B.o.other A.o.2.1 _ _, B.gn.other A.o.2.2 _ _, (B.dn.set 0 _).congr fun j _ => by by_cases e : j = 0 <;> simp [e]⟩
theorem Stg.set1 (B : Stg w0 w L E Ab O Gb Db s σ q cs u d0 d1 g oE oV oSt) (A : StgA w0 L E Ab O Gb Db) (b : Bool) : Stg w0 (w.setCell ⟨Db, 1, none⟩ (.bool b)) L E Ab O Gb Db s σ q cs u d0 b g oE oV oSt :=
  ⟨B.sp.setIn A.z.2.2.2 A.e.2.2.2 A.l.2.2.2 _ _, B.ac.other A.a.2.2 _ _, B.o.other A.o.2.1 _ _, B.gn.other A.o.2.2 _ _, (B.dn.set 1 _).congr fun j hj => by
    have : j = 0 ∨ j = 1 := by omega
    rcases this with rfl | rfl <;> simp⟩
theorem Stg.n0 (B : Stg w0 w L E Ab O Gb Db s σ q cs u d0 d1 g oE oV oSt) : w.cell? ⟨Db, 0, none⟩ = some (.bool d0) := B.dn.cell (i := 0) (by decide)
theorem Stg.n1 (B : Stg w0 w L E Ab O Gb Db s σ q cs u d0 d1 g oE oV oSt) : w.cell? ⟨Db, 1, none⟩ = some (.bool d1) := B.dn.cell (i := 1) (by decide)
end

/-- the object of two words, in a fresh arena -/
def oxD : Ox := ⟨0, 1, base 4 4 2 20 0, 0, 0, 2, 0, false⟩
def qD : Q := (Q.new 4).made 0 [1, 2, 3] y1 (base 4 4 2 20 0) 0 0 2 false
theorem goodD : Good 4 4 2 20 100 600 3 := goodp (by omega) (by omega) (by omega) (by omega)

theorem two_make {w0 w : World} {L : Loc} {bE σ : Nat} {s : Mm} (f : Farm w0 w L bE 4 4 2 20 100 s σ (Q.new 4) 0 (fun _ => 1) []) (a : FarmApart w0 L bE 4 4 2 20 100) (hσ : σ + 400 < 1000000) :
    Calls Tryz.prog 11 #[.agg #[.int .i64 4, .int .i64 4, .int .i64 2, .int .i64 20, .int .i64 100, .int .i64 600, .int .i64 3, .pointer (some ⟨L.p, 0, none⟩), .int .i64 0], .int .i64 2, .bool false] w fun e w' => ∃ (st : Nat) (s' : Mm) (σ' : Nat), e = .returned (.agg #[.int .i64 0, .int .u64 65536, .int .i64 0, .int .i64 st]) ∧ σ' ≤ σ + 100 ∧ Spt w0 w' L bE 4 4 2 20 s' σ' qD ∧ LiveD (qD.sw 0) qD := by
  have g : Got 2 20 0 (base 4 4 2 20) (Q.new 4).y 0 y1 (0 + 1) (.won (base 4 4 2 20 0) 0) := .new (fun i h => by simp [Q.new, Y.new] at h) (by decide)
  have k := f.ok (own := false) a (Z := 2) (κ := 0) (by decide) (by decide) rfl (by decide) (x := 0) (F := [1, 2, 3]) rfl g hσ
  rw [show packH ((0 : Nat) : Int) (((fun _ => 1) 0 : Nat) : Int) = 65536 from packH01] at k
  refine k.mono ?_
  rintro e w' ⟨st, s', σ', rfl, -, -, h3, f', o'⟩
  have f' : Farm w0 w' L bE 4 4 2 20 100 s' σ' qD 1 (fun _ => 1) ([] ++ oxD :: []) := f'
  refine ⟨st, s', σ', rfl, h3, f'.spt, ?_⟩
  have ho : oxD ∈ [] ++ oxD :: [] := by simp
  have S := f'.tm.scn goodD (by decide) ho
  have I := f'.tm.is goodD (by decide) ho
  have A := f'.tm.li oxD ho
  have zero : ∀ j, j < 2 → qD.dw (adOf (qD.sw 0) + 1 + j) = 0 := fun j hj => by
    rw [show adOf (qD.sw 0) = oxD.a from I.ad, Nat.add_assoc]
    exact A.nt (1 + j) (by omega) (by show 1 + j ≤ 2; omega)
  have lv := f'.tm.room_le (l1 := []) (l2 := []) (o := oxD)
  rw [← I.rm] at lv
  exact ⟨⟨S, fun j hj => ⟨Int.le_of_eq (zero j hj).symm, Int.le_trans (Int.le_of_eq (zero j hj)) (by decide)⟩⟩, I.st, I.vr, lv, A.nf⟩

theorem bit2 (i : Nat) : bits .and .i64 (i : Int) 1 = ((i % 2 : Nat) : Int) := by
  have h := i64_low (i : Int) 1 1 (by decide) (by decide)
  rw [h]; omega
theorem bit1 (z : Int) : ∃ K : Nat, bits .and .i64 z 1 = (K : Int) ∧ (K = 0 ∨ K = 1) := by
  obtain ⟨y, h1, h2⟩ := low0 z 1 1 (by decide) (by decide)
  exact ⟨y, h1, by omega⟩
theorem kind2 (z : Int) : ∃ kd : Int, 1 + bits .and .i64 z 1 = kd ∧ (kd = 1 ∨ kd = 2) := by
  obtain ⟨K, h1, h2⟩ := bit1 z
  exact ⟨1 + K, by rw [h1], by omega⟩

end Go.Proofs.YtcdmokbamakomaaGreat
