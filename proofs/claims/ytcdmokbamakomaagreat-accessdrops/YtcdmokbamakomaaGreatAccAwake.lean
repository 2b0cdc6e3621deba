/- An arena in which one is alone does things to words of objects; the statements' own first look at package access. -/
import Derived.Test.YtcdmokbamakomaaGreatAccRun
namespace Go.Proofs.YtcdmokbamakomaaGreat
open Go.RowKit

/-- an arena, its memory and what lies in it -/
structure Spt (w0 w : World) (L : Loc) (bE t n k m : Nat) (s : Mm) (σ : Nat) (q : Q) : Prop where
  mm : MemAt w L s
  tw : Town t n k m s σ q
  v : BoxV w bE t n k m 100 600 3 L.p 0
  b : Below w0.heap.size w0 w

section
variable {w0 w w' : World} {L : Loc} {bE t n k m σ nx : Nat} {s : Mm} {q : Q} {gen : Nat → Nat} {ls : List Ox} {W : Wt} {own : Bool}

theorem Farm.spt (f : Farm w0 w L bE t n k m 100 s σ q nx gen ls) : Spt w0 w L bE t n k m s σ q := ⟨f.mm, f.tw, f.v, f.b⟩
theorem Spt.grown (f : Spt w0 w L bE t n k m s σ q) (g : Below w.heap.size w w') : Spt w0 w' L bE t n k m s σ q := ⟨f.mm.below g, f.tw, f.v.grown g, grow f.b g⟩
theorem Spt.only (f : Spt w0 w L bE t n k m s σ q) (a : FarmApart w0 L bE t n k m 100) {s' : Mm} {σ' : Nat} {q' : Q} (o : Only L.has w w') (m' : MemAt w' L s') (t' : Town t n k m s' σ' q') : Spt w0 w' L bE t n k m s' σ' q' := ⟨m', t', f.v.only o a.e, mgrow f.b o a.l0⟩
theorem Spt.setIn (f : Spt w0 w L bE t n k m s σ q) {X : Nat} (h0 : w0.heap.size ≤ X) (hE : bE ≠ X) (hL : ¬ L.has X) (i : Nat) (v : Value) : Spt w0 (w.setCell ⟨X, i, none⟩ v) L bE t n k m s σ q := ⟨f.mm.setIn hL _ _, f.tw, f.v.setIn hE _ _, below_setIn f.b h0 _ _⟩
theorem Spt.ltE (f : Spt w0 w L bE t n k m s σ q) : bE < w.heap.size := World.block_lt_of_cell? _ _ f.v.c0

/-- something is done to a word -/
theorem Spt.do (f : Spt w0 w L bE t n k m s σ q) (a : FarmApart w0 L bE t n k m 100) (hdw : ∀ a, Wd (q.dw a)) {x G : Nat} (hh : HandIs W.nu x G) (hx : x < n) (hW : W.ok) (hσ : σ + 200 < 1000000) {N : Nat} (hN : N ≤ 200) {rb : Bool} {q' : Q} {E val : Int} {st : Nat} (g : ARuns t n k m W own x G rb N σ q .see q' (.over E val st)) :
    Calls Tryz.prog 13 #[.agg #[.int .i64 t, .int .i64 n, .int .i64 k, .int .i64 m, .int .i64 100, .int .i64 600, .int .i64 3, .pointer (some ⟨L.p, 0, none⟩), .int .i64 0], .agg #[.int .i64 W.kd, .int .u64 W.nu, .int .i64 W.ix, .int .i64 W.vl, .int .i64 W.ol], .bool own] w fun e w' => e = .returned (.agg #[.int .i64 E, .int .u64 0, .int .i64 val, .int .i64 st]) ∧ ∃ s' : Mm, Spt w0 w' L bE t n k m s' (σ + N) q' ∧ Only L.has w w' ∧ (rb = true → s'.wd = s.wd) := by
  refine (do_goes f.mm f.tw a.g hdw hh hx hW hσ hN g).mono ?_
  rintro e w' ⟨rfl, s', m', t', o', e'⟩
  exact ⟨rfl, s', f.only a o' m' t', o', e'⟩
end

theorem hand01 : HandIs 65536 0 1 := by
  have hh := handIs (x := 0) (G := 1) (by decide) (by decide) (by decide)
  rwa [packH01] at hh

section
variable {w0 w : World} {L : Loc} {bE σ : Nat} {s : Mm}

def wtA : Wt := ⟨2, 65536, 1, 5, 0⟩
def wtB : Wt := ⟨1, 65536, 1, 0, 0⟩
def qc : Q := { qa with dw := upd qa.dw (wtA.at (qa.sw 0)) 5 }

theorem aw_scn (f : Farm w0 w L bE 1 4 2 20 100 s σ qa 1 (fun _ => 1) ([] ++ ox1 :: [])) : Scn 1 4 2 20 0 1 2 0 (qa.sw 0) false qa :=
  f.tm.scn good1 (by decide) (o := ox1) (by simp)

theorem aw_zero (f : Farm w0 w L bE 1 4 2 20 100 s σ qa 1 (fun _ => 1) ([] ++ ox1 :: [])) : qa.dw (wtA.at (qa.sw 0)) = 0 := by
  have I := f.tm.is good1 (by decide) (o := ox1) (by simp)
  have A := f.tm.li ox1 (by simp)
  have e : adOf (qa.sw 0) = ox1.a := I.ad
  show qa.dw (adOf (qa.sw 0) + 1 + 1) = 0
  rw [e]
  exact A.nt 2 (by decide) (by decide)

theorem aw_write (f : Farm w0 w L bE 1 4 2 20 100 s σ qa 1 (fun _ => 1) ([] ++ ox1 :: [])) (a : FarmApart w0 L bE 1 4 2 20 100) (hσ : σ + 200 < 1000000) :
    Calls Tryz.prog 13 #[.agg #[.int .i64 1, .int .i64 4, .int .i64 2, .int .i64 20, .int .i64 100, .int .i64 600, .int .i64 3, .pointer (some ⟨L.p, 0, none⟩), .int .i64 0], .agg #[.int .i64 2, .int .u64 65536, .int .i64 1, .int .i64 5, .int .i64 0], .bool false] w fun e w' => ∃ τ : Nat, e = .returned (.agg #[.int .i64 0, .int .u64 0, .int .i64 0, .int .i64 τ]) ∧ τ ≤ σ + 4 ∧ (∃ s' : Mm, Spt w0 w' L bE 1 4 2 20 s' τ qc) ∧ Scn 1 4 2 20 0 1 2 0 (qa.sw 0) false qc ∧ Only L.has w w' := by
  have S := aw_scn f
  have g := S.lays (W := wtA) (σ := σ) (by decide) (by decide) (aw_zero f) (by decide) (by decide)
  have hw : wtA.w = 5 := packX_val (by decide) (by decide)
  rw [hw] at g
  have S' : Scn 1 4 2 20 0 1 2 0 (qa.sw 0) false qc := S.upd (j := 1) (c := 5) ⟨by decide, by decide⟩
  refine (f.spt.do (W := wtA) a f.tm.wb hand01 (by decide) ⟨Or.inr (Or.inl rfl), ⟨by decide, by decide⟩⟩ hσ (by decide) g).mono ?_
  rintro e w' ⟨rfl, s', f', o', -⟩
  exact ⟨_, rfl, Nat.le_refl _, ⟨s', f'⟩, S', o'⟩

theorem aw_read (f : Spt w0 w L bE 1 4 2 20 s σ qc) (S : Scn 1 4 2 20 0 1 2 0 (qa.sw 0) false qc) (a : FarmApart w0 L bE 1 4 2 20 100) (hσ : σ + 200 < 1000000) :
    Calls Tryz.prog 13 #[.agg #[.int .i64 1, .int .i64 4, .int .i64 2, .int .i64 20, .int .i64 100, .int .i64 600, .int .i64 3, .pointer (some ⟨L.p, 0, none⟩), .int .i64 0], .agg #[.int .i64 1, .int .u64 65536, .int .i64 1, .int .i64 0, .int .i64 0], .bool false] w fun e w' => ∃ τ : Nat, e = .returned (.agg #[.int .i64 0, .int .u64 0, .int .i64 5, .int .i64 τ]) ∧ σ < τ ∧ Below w0.heap.size w0 w' ∧ Only L.has w w' := by
  have hc : qc.dw (wtB.at (qa.sw 0)) = 5 := by
    show upd qa.dw (wtA.at (qa.sw 0)) 5 (wtA.at (qa.sw 0)) = 5
    exact upd_same _ _ _
  have g := S.reads (W := wtB) (σ := σ) (by decide) (by decide) hc rfl
  refine (f.do (W := wtB) a S.wd hand01 (by decide) ⟨Or.inl rfl, ⟨by decide, by decide⟩⟩ hσ (by decide) g).mono ?_
  rintro e w' ⟨rfl, s', f', o', -⟩
  exact ⟨_, rfl, by omega, f'.b, o'⟩
end

set_option maxHeartbeats 1000000 in
theorem awake10_any (w : World) :
    Calls Tryz.prog 10 #[] w fun e w' => e = .returned (.bool true) ∧ Below w.heap.size w w' := by
  have ar := arena08 good1 (by omega)
  have f1 : ∀ (a1 a2 a3 a4 : Value) (w : World), (Instr.field 37 (.agg #[a1, a2, a3, a4]) 1).run Tryz.prog w = .ok a2 w := fun a1 a2 a3 a4 w => by kernel_rfl
  go_enter Tryz.func10, Tryz.ntmps10
  go_wp2_with (first
    | (go_at_call 9; refine (ar _).mono ?_; rintro e w1 ⟨L, s, rfl, m1, t1, b1, l1⟩; obtain ⟨p1, pa⟩ := Farm.first good1 m1 t1 b1 l1; have y0 := p1.v.c0; have y1 := p1.v.c1; have y2 := p1.v.c2; have y3 := p1.v.c3; have y4 := p1.v.c4; have y5 := p1.v.c5; have y6 := p1.v.c6; have y7 := p1.v.c7; have y8 := p1.v.c8)
    | (go_at_call 11; refine (aw_make p1 pa (by decide)).mono ?_; rintro e w2 ⟨st2, s2, σ2, rfl, h2, p2, o2⟩; have z0 := p2.v.c0; have z1 := p2.v.c1; have z2 := p2.v.c2; have z3 := p2.v.c3; have z4 := p2.v.c4; have z5 := p2.v.c5; have z6 := p2.v.c6; have z7 := p2.v.c7; have z8 := p2.v.c8)
    | (go_at_call 13; refine (aw_write p2 pa (by omega)).mono ?_; rintro e w3 ⟨τ3, rfl, hτ3, ⟨s3, p3⟩, S3, o3⟩; have g3 := grow1 w3 (.cells #[.int .i64 0, .int .u64 0, .int .i64 0, .int .i64 (τ3 : Nat)] 37); have p4 := p3.grown g3; have v0 := p4.v.c0; have v1 := p4.v.c1; have v2 := p4.v.c2; have v3 := p4.v.c3; have v4 := p4.v.c4; have v5 := p4.v.c5; have v6 := p4.v.c6; have v7 := p4.v.c7; have v8 := p4.v.c8; have d3 := At.new w3 37 [.int .i64 0, .int .u64 0, .int .i64 0, .int .i64 (τ3 : Nat)]; clear p2)
    | (go_at_call 13; refine (aw_read p4 S3 pa (by omega)).mono ?_; rintro e w5 ⟨τ5, rfl, hτ5, b5, o5⟩; have hgt : (τ5 : Int) > (τ3 : Int) := (by omega); have hl : ¬ L.has w3.heap.size := (fun hh => by have := p3.mm.lt _ hh; omega); have d5 := (d3.only o5 hl).grown (grow1 w5 (.cells #[.int .i64 0, .int .u64 0, .int .i64 5, .int .i64 (τ5 : Nat)] 37)); have e5 := At.new w5 37 [.int .i64 0, .int .u64 0, .int .i64 5, .int .i64 (τ5 : Nat)]; have x0 := d5.at0 0 rfl; have x3 := d5.at0 3 rfl; have u0 := e5.at0 0 rfl; have u2 := e5.at0 2 rfl; have u3 := e5.at0 3 rfl))
  go_ret
  exact ⟨rfl, grow_alloc b5 _⟩

end Go.Proofs.YtcdmokbamakomaaGreat
