/- LayoutEnv answers true for every slice of things to be done, and leaves what was in memory. -/
import Derived.Test.YtcdeicbbaidjkaaLayAwake
import Derived.Test.YtcdeicbbaidjkaaLayEnv
import Derived.Test.YtcdeicbbaidjkaaPhase
import Derived.Test.YtcdeicbbaidjkaaShapeActs4
namespace Go.Proofs.Ytcdeicbbaidjkaa
open Go.RowKit

theorem elen_is {w : World} {L : Loc} {s : Mm} (h : MemAt w L s) (x : Nat) (hx : s.n = x) :
    Calls Try.prog 28 #[.pointer (some ⟨L.p, 0, none⟩)] w fun e w' => e = .returned (.int .i64 x) ∧ w' = w := by
  subst hx; exact len_any h

theorem last_is {w : World} {L : Loc} {s : Mm} (h : MemAt w L s) (a b : Int) (c : Bool) (ha : s.la = a) (hb : s.lw = b) (hc : s.lc = c) :
    Calls Try.prog 40 #[.pointer (some ⟨L.p, 0, none⟩)] w fun e w' => e = .returned (.agg #[.int .i64 a, .int .i64 b, .bool c]) ∧ Below w.heap.size w w' := by
  subst ha hb hc; exact last_any h

/-- a place among len words -/
theorem place_of (z : Int) (len : Nat) (h1 : 1 ≤ len) (h2 : len ≤ 4000) : ∃ (u : Int) (q : Nat), z.tmod len = u ∧ -4000 ≤ u ∧ u ≤ 4000 ∧ (u + len).tmod len = (q : Int) ∧ q < len := by
  have h3 : -(len : Int) < z.tmod len := Int.lt_tmod_of_pos z (by omega)
  have h4 : z.tmod len < len := Int.tmod_lt_of_pos z (by omega)
  have h5 := Int.emod_nonneg (z.tmod len + len) (b := (len : Int)) (by omega)
  have h6 := Int.emod_lt_of_pos (z.tmod len + len) (b := (len : Int)) (by omega)
  refine ⟨_, ((z.tmod len + len) % len).toNat, rfl, by omega, by omega, ?_, by omega⟩
  rw [Int.tmod_eq_emod_of_nonneg (by omega)]
  omega

/-- the thing that is to be done, as it was copied -/
structure BoxA (w : World) (b : Nat) (k z u d v : Int) : Prop where
  c0 : w.cell? ⟨b, 0, none⟩ = some (.int .i64 k)
  c1 : w.cell? ⟨b, 1, none⟩ = some (.int .i64 z)
  c2 : w.cell? ⟨b, 2, none⟩ = some (.int .i64 u)
  c3 : w.cell? ⟨b, 3, none⟩ = some (.int .i64 d)
  c4 : w.cell? ⟨b, 4, none⟩ = some (.int .u64 v)

theorem BoxA.grown {w w' : World} {b : Nat} {k z u d v : Int} (h : BoxA w b k z u d v) (g : Below w.heap.size w w') : BoxA w' b k z u d v :=
  ⟨keep' g h.c0, keep' g h.c1, keep' g h.c2, keep' g h.c3, keep' g h.c4⟩
theorem BoxA.only {w w' : World} {S : Nat → Prop} {b : Nat} {k z u d v : Int} (h : BoxA w b k z u d v) (o : Only S w w') (hs : ¬ S b) : BoxA w' b k z u d v :=
  ⟨o.keep hs h.c0, o.keep hs h.c1, o.keep hs h.c2, o.keep hs h.c3, o.keep hs h.c4⟩

/-- an arena, and who works in it, as it was laid -/
structure BoxV (w : World) (b : Nat) (c0 c1 c2 c3 c4 c5 c6 : Int) (P : Nat) (who : Int) : Prop where
  cfg : CfgAt w b c0 c1 c2 c3 c4 c5 c6
  c7 : w.cell? ⟨b, 7, none⟩ = some (.pointer (some ⟨P, 0, none⟩))
  c8 : w.cell? ⟨b, 8, none⟩ = some (.int .i64 who)

theorem BoxV.grown {w w' : World} {b : Nat} {c0 c1 c2 c3 c4 c5 c6 who : Int} {P : Nat} (h : BoxV w b c0 c1 c2 c3 c4 c5 c6 P who) (g : Below w.heap.size w w') : BoxV w' b c0 c1 c2 c3 c4 c5 c6 P who :=
  ⟨h.cfg.grown g, keep' g h.c7, keep' g h.c8⟩
theorem BoxV.only {w w' : World} {S : Nat → Prop} {b : Nat} {c0 c1 c2 c3 c4 c5 c6 who : Int} {P : Nat} (h : BoxV w b c0 c1 c2 c3 c4 c5 c6 P who) (o : Only S w w') (hs : ¬ S b) : BoxV w' b c0 c1 c2 c3 c4 c5 c6 P who :=
  ⟨h.cfg.only o hs, o.keep hs h.c7, o.keep hs h.c8⟩

/-- all that a round knows of its world: two memories, the arena, the thing to be done, and who works -/
structure Duo (w0 w : World) (L M : Loc) (s s' : Mm) (B bA bV : Nat) (c0 c1 c2 c3 c4 c5 c6 k z u d v : Int) : Prop where
  m : MemAt w L s
  n : MemAt w M s'
  cfg : CfgAt w B c0 c1 c2 c3 c4 c5 c6
  a : BoxA w bA k z u d v
  v : BoxV w bV c0 c1 c2 c3 c4 c5 c6 L.p u
  b : Below w0.heap.size w0 w

/-- what stands apart -/
structure Apart (w0 : World) (L M : Loc) (B bA bV : Nat) : Prop where
  lm : ∀ i, L.has i → ¬ M.has i
  l0 : ∀ i, L.has i → w0.heap.size ≤ i
  m0 : ∀ i, M.has i → w0.heap.size ≤ i
  lB : ¬ L.has B
  mB : ¬ M.has B
  lA : ¬ L.has bA
  mA : ¬ M.has bA
  lV : ¬ L.has bV
  mV : ¬ M.has bV

section
variable {w0 w w' : World} {L M : Loc} {s s' : Mm} {B bA bV : Nat} {c0 c1 c2 c3 c4 c5 c6 k z u d v : Int}

theorem Duo.grown (h : Duo w0 w L M s s' B bA bV c0 c1 c2 c3 c4 c5 c6 k z u d v) (g : Below w.heap.size w w') : Duo w0 w' L M s s' B bA bV c0 c1 c2 c3 c4 c5 c6 k z u d v :=
  ⟨h.m.below g, h.n.below g, h.cfg.grown g, h.a.grown g, h.v.grown g, grow h.b g⟩

theorem Duo.atL {t : Mm} (h : Duo w0 w L M s s' B bA bV c0 c1 c2 c3 c4 c5 c6 k z u d v) (p : Apart w0 L M B bA bV) (hm : MemAt w' L t) (o : Only L.has w w') : Duo w0 w' L M t s' B bA bV c0 c1 c2 c3 c4 c5 c6 k z u d v :=
  ⟨hm, h.n.only o (fun i hi hl => p.lm i hl hi), h.cfg.only o p.lB, h.a.only o p.lA, h.v.only o p.lV, mgrow h.b o p.l0⟩

theorem Duo.atM {t : Mm} (h : Duo w0 w L M s s' B bA bV c0 c1 c2 c3 c4 c5 c6 k z u d v) (p : Apart w0 L M B bA bV) (hm : MemAt w' M t) (o : Only M.has w w') : Duo w0 w' L M s t B bA bV c0 c1 c2 c3 c4 c5 c6 k z u d v :=
  ⟨h.m.only o (fun i hi hl => p.lm i hi hl), hm, h.cfg.only o p.mB, h.a.only o p.mA, h.v.only o p.mV, mgrow h.b o p.m0⟩
end

/-- the second memory, while its word is exchanged -/
def duoN (M : Loc) (s : Mm) (q : Nat) (v : Int) : Nat → World → Prop
  | 0, w => MemAt w M s
  | 1, w => MemAt w M s
  | _, w => MemAt w M (s.step q v)

/-- the first memory, while its word is exchanged, and once more in vain -/
def duoM (L : Loc) (s : Mm) (who : Int) (q : Nat) (v : Int) : Nat → World → Prop
  | 0, w => MemAt w L s
  | 1, w => MemAt w L s
  | 2, w => MemAt w L ((s.by who).step q v)
  | 3, w => MemAt w L ((s.by who).step q v)
  | _, w => MemAt w L (((s.by who).step q v).step q v)

set_option maxRecDepth 20000 in
set_option maxHeartbeats 4000000 in
theorem layoutEnv_any (ao : Option Addr) (n cap : Nat) (A : Acts) (w : World) (hr : ActsAt w ao n A) (hfit : ActsFit n A) :
    Calls Try.prog 8 #[.slice ao n cap] w fun e w' => e = .returned (.bool true) ∧ Below w.heap.size w w' := by
  have HR : Hid (ActsAt w ao n A) := hr
  have HFIT : Hid (ActsFit n A) := hfit
  clear hr hfit
  obtain ⟨t', s', k', n', g', p', r', hs, hcfg⟩ := config_any 0 0 0 0 0 0 0
  have HC : Hid (∀ w : World, Calls Try.prog 12 #[.agg #[.int .i64 0, .int .i64 0, .int .i64 0, .int .i64 0, .int .i64 0, .int .i64 0, .int .i64 0]] w fun e w' => e = .returned (.agg #[.int .i64 t', .int .i64 s', .int .i64 k', .int .i64 n', .int .i64 g', .int .i64 p', .int .i64 r']) ∧ Below w.heap.size w w') := hcfg
  clear hcfg
  have hG := hs.good
  obtain ⟨len, hlen⟩ : ∃ len, len = arenaLen t' s' k' n' := ⟨_, rfl⟩
  obtain ⟨hl1, hl2⟩ : 1 ≤ len ∧ len ≤ 4000 := by
    have := Nat.mul_le_mul hs.k1 hs.n1
    have := hs.t1; have := hs.s1; have := hs.k1
    rw [hlen]; unfold arenaLen; omega
  have HF : Hid (∀ w : World, Calls Try.prog 27 #[.agg #[.int .i64 t', .int .i64 s', .int .i64 k', .int .i64 n', .int .i64 g', .int .i64 p', .int .i64 r']] w fun e w' => ∃ L : Loc, e = .returned (.tuple #[.pointer (some ⟨L.p, 0, none⟩), .int .i64 0]) ∧ MemAt w' L (Mm.laid t' s' len s') ∧ Below w.heap.size w w' ∧ ∀ k, L.has k → w.heap.size ≤ k) := by
    rw [hlen]; exact fun w => fresh_good hG w
  have HSN : Hid ((Mm.laid t' s' len s').n = len) := Mm.laid_n _ _ _ _
  clear hlen hs
  obtain ⟨S, hS⟩ : ∃ S, S = Mm.laid t' s' len s' := ⟨_, rfl⟩
  rw [← hS] at HF HSN
  clear hS
  go_enter Try.func8, Try.ntmps8
  go_wp2_with (first
    | (go_at_call 12; refine (HC.out _).mono ?_; rintro e w1 ⟨rfl, b1⟩)
    | (go_at_call 27; refine (HF.out _).mono ?_; first
        | (have fst := m2; rintro e w3 ⟨M, rfl, m3, b3, f3⟩)
        | (rintro e w2 ⟨L, rfl, m2, b2, f2⟩; have cc := CfgAt.new.grown b2; have x0 := cc.c0; have x1 := cc.c1; have x2 := cc.c2; have x3 := cc.c3; have x4 := cc.c4; have x5 := cc.c5; have x6 := cc.c6))
    | (go_at_call 9; refine (awake04_any _).mono ?_; rintro e w4 ⟨rfl, b4⟩))
  have c4 := (cc.grown b3).grown b4
  have B4 : Below w.heap.size w w4 := grow (grow (grow (grow_alloc b1 _) b2) b3) b4
  have mL := (m2.below b3).below b4
  have mM := m3.below b4
  have hlm : ∀ i, L.has i → ¬ M.has i := fun i hi hj => by have := m2.lt i hi; have := f3 i hj; omega
  have hl0 : ∀ i, L.has i → w1.heap.size < i := fun i hi => by have := f2 i hi; simp at this; omega
  have hm0 : ∀ i, M.has i → w1.heap.size < i := fun i hi => by have := f3 i hi; have := b2.size; simp at this; omega
  have hw1 := b1.size
  have HLM : Hid (∀ i, L.has i → ¬ M.has i) := hlm
  have HL0 : Hid (∀ i, L.has i → w1.heap.size < i) := hl0
  have HM0 : Hid (∀ i, M.has i → w1.heap.size < i) := hm0
  clear b1 b2 b3 b4 fst m2 m3 f2 f3 cc x0 x1 x2 x3 x4 x5 x6 hlm hl0 hm0
  go_loopw [8] (fun i wr => ∃ (j : Nat) (s : Mm), j ≤ n ∧ j ≤ 60 ∧ i = .int .i64 j ∧ Hid (s.n = len) ∧ MemAt wr L s ∧ MemAt wr M s ∧ CfgAt wr w1.heap.size t' s' k' n' g' p' r' ∧ Below w.heap.size w wr) (fun i _ => 60 - (intOf i).toNat)
  case atStart => exact ⟨0, S, by omega, by omega, rfl, HSN, mL, mM, c4, B4⟩
  case round =>
    clear mL mM c4 B4
    obtain ⟨j, s, hj, hj6, rfl, hsn, hmL, hmM, hc, hb⟩ := hrel
    by_cases hgo : j < n ∧ j < 60
    · obtain ⟨h1, h2⟩ := hgo
      have h1' : (j : Int) < (n : Int) := by omega
      have h2' : (j : Int) < 60 := by omega
      obtain ⟨ab, off, rfl, k0, k1, k2, k3, k4⟩ := HR.out j h1
      obtain ⟨ak, hak⟩ : ∃ x, x = A.kind j := ⟨_, rfl⟩
      obtain ⟨az, haz⟩ : ∃ x, x = A.at_ j := ⟨_, rfl⟩
      obtain ⟨aw, haw⟩ : ∃ x, x = A.who j := ⟨_, rfl⟩
      obtain ⟨ad, had⟩ : ∃ x, x = A.d j := ⟨_, rfl⟩
      obtain ⟨av, hav⟩ : ∃ x, x = A.w j := ⟨_, rfl⟩
      have hfw : FitW av := by rw [hav]; exact (HFIT.out j h1).2.2.2.2
      rw [← hak] at k0
      rw [← haz] at k1
      rw [← haw] at k2
      rw [← had] at k3
      rw [← hav] at k4
      clear hak haz haw had hav
      replace k0 := keep' hb k0
      replace k1 := keep' hb k1
      replace k2 := keep' hb k2
      replace k3 := keep' hb k3
      replace k4 := keep' hb k4
      obtain ⟨u, q, hu, hu1, hu2, hq, hql⟩ := place_of az len hl1 hl2
      have x0 := fun o => alloc_cell hc.c0 o
      have x1 := fun o => alloc_cell hc.c1 o
      have x2 := fun o => alloc_cell hc.c2 o
      have x3 := fun o => alloc_cell hc.c3 o
      have x4 := fun o => alloc_cell hc.c4 o
      have x5 := fun o => alloc_cell hc.c5 o
      have x6 := fun o => alloc_cell hc.c6 o
      go_wp2
      have AP : Apart w L M w1.heap.size wr.heap.size (wr.heap.size + 1) :=
        ⟨HLM.out, fun i hi => by have := HL0.out i hi; omega, fun i hi => by have := HM0.out i hi; omega, fun hh => by have := HL0.out _ hh; omega, fun hh => by have := HM0.out _ hh; omega,
          fun hh => by have := hmL.lt _ hh; omega, fun hh => by have := hmM.lt _ hh; omega, fun hh => by have := hmL.lt _ hh; omega, fun hh => by have := hmM.lt _ hh; omega⟩
      refine wp_over (fun W => Duo w W L M (s) (s) w1.heap.size wr.heap.size (wr.heap.size + 1) t' s' k' n' g' p' r' ak az aw ad av) ?_ ?_
      · exact ⟨(hmL.alloc _).alloc _, (hmM.alloc _).alloc _, hc.grown (grow_alloc (grow_alloc (Below.refl _ _) _) _), ⟨by simp, by simp, by simp, by simp, by simp⟩, ⟨⟨by simp, by simp, by simp, by simp, by simp, by simp, by simp⟩, by simp, by simp⟩, grow_alloc (grow_alloc hb _) _⟩
      intro W4 D4
      clear x0 x1 x2 x3 x4 x5 x6 k0 k1 k2 k3 k4 hc hmL hmM hb
      have e1 := fun N : Later W4 => (D4.grown N.below).a.c1
      haveI := Later.exists W4
      refine wp_region_later (by kernel_rfl) (by kernel_rfl) ?_
      repeat (go_big_quiet_step ((go_at_call 28; exact Calls.later_same (elen_is (D4.m.below (Later.below _)) len hsn.out))))
      refine wpQuiet_nil ?_
      rintro _ ⟨nq, rfl⟩
      have D5 := D4.grown nq.below
      generalize nq.now = w5 at D5 ⊢
      clear e1 D4
      have hqn : Hid (q < s.n) := by rw [hsn.out]; exact hql
      have HQ : Hid (q < len) := hql
      clear hq hql hu hu1 hu2
      have y0 := (D5).a.c0
      have y1 := (D5).a.c1
      have y2 := (D5).a.c2
      have y3 := (D5).a.c3
      have y4 := (D5).a.c4
      have yv0 := (D5).v.cfg.c0
      have yv1 := (D5).v.cfg.c1
      have yv2 := (D5).v.cfg.c2
      have yv3 := (D5).v.cfg.c3
      have yv4 := (D5).v.cfg.c4
      have yv5 := (D5).v.cfg.c5
      have yv6 := (D5).v.cfg.c6
      have yv7 := (D5).v.c7
      have yv8 := (D5).v.c8
      by_cases hk0 : ak = 0
      · subst hk0
        go_wp2_with (first
          | (go_at_call 31; refine (by_any D5.n _).mono ?_; rintro e w6 ⟨rfl, m6, o6, z6⟩; have D6 := D5.atM AP m6 o6; have y0 := (D6).a.c0; have y1 := (D6).a.c1; have y2 := (D6).a.c2; have y3 := (D6).a.c3; have y4 := (D6).a.c4; have yv0 := (D6).v.cfg.c0; have yv1 := (D6).v.cfg.c1; have yv2 := (D6).v.cfg.c2; have yv3 := (D6).v.cfg.c3; have yv4 := (D6).v.cfg.c4; have yv5 := (D6).v.cfg.c5; have yv6 := (D6).v.cfg.c6; have yv7 := (D6).v.c7; have yv8 := (D6).v.c8)
          | (go_at_call 32; refine (load_in D6.n q hqn.out).mono ?_; rintro e w7 ⟨rfl, m7, o7, z7⟩; have D7 := D6.atM AP m7 o7; have y0 := (D7).a.c0; have y1 := (D7).a.c1; have y2 := (D7).a.c2; have y3 := (D7).a.c3; have y4 := (D7).a.c4; have yv0 := (D7).v.cfg.c0; have yv1 := (D7).v.cfg.c1; have yv2 := (D7).v.cfg.c2; have yv3 := (D7).v.cfg.c3; have yv4 := (D7).v.cfg.c4; have yv5 := (D7).v.cfg.c5; have yv6 := (D7).v.cfg.c6; have yv7 := (D7).v.c7; have yv8 := (D7).v.c8)
          | (go_at_call 33; refine (eload_in D7.m _ _ _ _ _ _ _ _ q hqn.out).mono ?_; rintro e w8 ⟨rfl, m8, o8⟩; have D8 := D7.atL AP m8 o8; have y0 := (D8).a.c0; have y1 := (D8).a.c1; have y2 := (D8).a.c2; have y3 := (D8).a.c3; have y4 := (D8).a.c4; have yv0 := (D8).v.cfg.c0; have yv1 := (D8).v.cfg.c1; have yv2 := (D8).v.cfg.c2; have yv3 := (D8).v.cfg.c3; have yv4 := (D8).v.cfg.c4; have yv5 := (D8).v.cfg.c5; have yv6 := (D8).v.cfg.c6; have yv7 := (D8).v.c7; have yv8 := (D8).v.c8))
        obtain ⟨s1, D, hn1, hla, hlw⟩ : ∃ s1 : Mm, Duo w w8 L M s1 s1 w1.heap.size wr.heap.size (wr.heap.size + 1) t' s' k' n' g' p' r' 0 az aw ad av ∧ Hid (s1.n = len) ∧ Hid (s1.la = q) ∧ Hid (s1.lw = aw) := ⟨_, D8, hsn, rfl, rfl⟩
        have hq1 : Hid (q < s1.n) := by rw [hn1.out]; exact HQ.out
        go_wp2_with (first
          | (go_at_call_of 40 (Value.pointer (some ⟨L.p, 0, none⟩)); refine (last_is D.m q aw _ hla.out hlw.out rfl).mono ?_; rintro e w9 ⟨rfl, b9⟩; have D9 := D.grown b9)
          | (go_at_call_of 40 (Value.pointer (some ⟨M.p, 0, none⟩)); refine (last_is D9.n q aw _ hla.out hlw.out rfl).mono ?_; rintro e w10 ⟨rfl, b10⟩; have D10 := D9.grown b10; have yv0 := fun o o' => alloc_cell (alloc_cell (D10).v.cfg.c0 o) o'; have yv1 := fun o o' => alloc_cell (alloc_cell (D10).v.cfg.c1 o) o'; have yv2 := fun o o' => alloc_cell (alloc_cell (D10).v.cfg.c2 o) o'; have yv3 := fun o o' => alloc_cell (alloc_cell (D10).v.cfg.c3 o) o'; have yv4 := fun o o' => alloc_cell (alloc_cell (D10).v.cfg.c4 o) o'; have yv5 := fun o o' => alloc_cell (alloc_cell (D10).v.cfg.c5 o) o'; have yv6 := fun o o' => alloc_cell (alloc_cell (D10).v.cfg.c6 o) o'; have yv7 := fun o o' => alloc_cell (alloc_cell (D10).v.c7 o) o'; have yv8 := fun o o' => alloc_cell (alloc_cell (D10).v.c8 o) o'; have ya2 := fun o o' => alloc_cell (alloc_cell D10.a.c2 o) o')
          | (go_at_call_of 30 (Value.pointer (some ⟨L.p, 0, none⟩)); refine (peek_in ((D10.m.alloc _).alloc _) q hq1.out).mono ?_; rintro e w11 ⟨rfl, rfl⟩)
          | (go_at_call_of 30 (Value.pointer (some ⟨M.p, 0, none⟩)); refine (peek_in ((D10.n.alloc _).alloc _) q hq1.out).mono ?_; rintro e w12 ⟨rfl, rfl⟩)
          | (go_at_call 41; refine (enow_any ((D10.m.alloc _).alloc _) _ _ _ _ _ _ _ _).mono ?_; rintro e w13 ⟨rfl, b13⟩; have ya2' := keep' b13 (ya2 _ _); have xa := b13.cell (p := ⟨w10.heap.size, 0, none⟩) (by simp; omega); have xb := b13.cell (p := ⟨w10.heap.size, 1, none⟩) (by simp; omega); have xc := b13.cell (p := ⟨w10.heap.size + 1, 0, none⟩) (by simp); simp at xa xb xc)
          | (go_at_call 42; refine (steps_any (((D10.n.alloc _).alloc _).below b13)).mono ?_; rintro e w14 ⟨rfl, rfl⟩))
        go_roundw
        case rel => exact ⟨j + 1, s1, by omega, by omega, by go_num, hn1, ((D10.m.alloc _).alloc _).below b13, ((D10.n.alloc _).alloc _).below b13, D10.cfg.grown (grow (grow_alloc (grow_alloc (Below.refl _ _) _) _) b13), grow (grow_alloc (grow_alloc D10.b _) _) b13⟩
        case measure => simp [intOf]; omega
      · by_cases hk1 : ak = 1
        · subst hk1
          clear hk0
          go_wp2_with (first
            | (go_at_call 31; refine (by_any D5.n _).mono ?_; rintro e w6 ⟨rfl, m6, o6, z6⟩; have D6 := D5.atM AP m6 o6; have y0 := (D6).a.c0; have y1 := (D6).a.c1; have y2 := (D6).a.c2; have y3 := (D6).a.c3; have y4 := (D6).a.c4; have yv0 := (D6).v.cfg.c0; have yv1 := (D6).v.cfg.c1; have yv2 := (D6).v.cfg.c2; have yv3 := (D6).v.cfg.c3; have yv4 := (D6).v.cfg.c4; have yv5 := (D6).v.cfg.c5; have yv6 := (D6).v.cfg.c6; have yv7 := (D6).v.c7; have yv8 := (D6).v.c8)
            | (go_at_call 34; refine (estore_in D6.m _ _ _ _ _ _ _ _ q hqn.out _).mono ?_; rintro e w7 ⟨rfl, m7, o7⟩; have D7 := D6.atL AP m7 o7; have y0 := (D7).a.c0; have y1 := (D7).a.c1; have y2 := (D7).a.c2; have y3 := (D7).a.c3; have y4 := (D7).a.c4; have yv0 := (D7).v.cfg.c0; have yv1 := (D7).v.cfg.c1; have yv2 := (D7).v.cfg.c2; have yv3 := (D7).v.cfg.c3; have yv4 := (D7).v.cfg.c4; have yv5 := (D7).v.cfg.c5; have yv6 := (D7).v.cfg.c6; have yv7 := (D7).v.c7; have yv8 := (D7).v.c8)
            | (go_at_call 35; refine (store_in D7.n q hqn.out _).mono ?_; rintro e w8 ⟨rfl, m8, o8, z8⟩; have D8 := D7.atM AP m8 o8; have y0 := (D8).a.c0; have y1 := (D8).a.c1; have y2 := (D8).a.c2; have y3 := (D8).a.c3; have y4 := (D8).a.c4; have yv0 := (D8).v.cfg.c0; have yv1 := (D8).v.cfg.c1; have yv2 := (D8).v.cfg.c2; have yv3 := (D8).v.cfg.c3; have yv4 := (D8).v.cfg.c4; have yv5 := (D8).v.cfg.c5; have yv6 := (D8).v.cfg.c6; have yv7 := (D8).v.c7; have yv8 := (D8).v.c8))
          obtain ⟨s1, D, hn1, hla, hlw⟩ : ∃ s1 : Mm, Duo w w8 L M s1 s1 w1.heap.size wr.heap.size (wr.heap.size + 1) t' s' k' n' g' p' r' 1 az aw ad av ∧ Hid (s1.n = len) ∧ Hid (s1.la = q) ∧ Hid (s1.lw = aw) := ⟨_, D8, hsn, rfl, rfl⟩
          have hq1 : Hid (q < s1.n) := by rw [hn1.out]; exact HQ.out
          go_wp2_with (first
            | (go_at_call_of 40 (Value.pointer (some ⟨L.p, 0, none⟩)); refine (last_is D.m q aw _ hla.out hlw.out rfl).mono ?_; rintro e w9 ⟨rfl, b9⟩; have D9 := D.grown b9)
            | (go_at_call_of 40 (Value.pointer (some ⟨M.p, 0, none⟩)); refine (last_is D9.n q aw _ hla.out hlw.out rfl).mono ?_; rintro e w10 ⟨rfl, b10⟩; have D10 := D9.grown b10; have yv0 := fun o o' => alloc_cell (alloc_cell (D10).v.cfg.c0 o) o'; have yv1 := fun o o' => alloc_cell (alloc_cell (D10).v.cfg.c1 o) o'; have yv2 := fun o o' => alloc_cell (alloc_cell (D10).v.cfg.c2 o) o'; have yv3 := fun o o' => alloc_cell (alloc_cell (D10).v.cfg.c3 o) o'; have yv4 := fun o o' => alloc_cell (alloc_cell (D10).v.cfg.c4 o) o'; have yv5 := fun o o' => alloc_cell (alloc_cell (D10).v.cfg.c5 o) o'; have yv6 := fun o o' => alloc_cell (alloc_cell (D10).v.cfg.c6 o) o'; have yv7 := fun o o' => alloc_cell (alloc_cell (D10).v.c7 o) o'; have yv8 := fun o o' => alloc_cell (alloc_cell (D10).v.c8 o) o'; have ya2 := fun o o' => alloc_cell (alloc_cell D10.a.c2 o) o')
            | (go_at_call_of 30 (Value.pointer (some ⟨L.p, 0, none⟩)); refine (peek_in ((D10.m.alloc _).alloc _) q hq1.out).mono ?_; rintro e w11 ⟨rfl, rfl⟩)
            | (go_at_call_of 30 (Value.pointer (some ⟨M.p, 0, none⟩)); refine (peek_in ((D10.n.alloc _).alloc _) q hq1.out).mono ?_; rintro e w12 ⟨rfl, rfl⟩)
            | (go_at_call 41; refine (enow_any ((D10.m.alloc _).alloc _) _ _ _ _ _ _ _ _).mono ?_; rintro e w13 ⟨rfl, b13⟩; have ya2' := keep' b13 (ya2 _ _); have xa := b13.cell (p := ⟨w10.heap.size, 0, none⟩) (by simp; omega); have xb := b13.cell (p := ⟨w10.heap.size, 1, none⟩) (by simp; omega); have xc := b13.cell (p := ⟨w10.heap.size + 1, 0, none⟩) (by simp); simp at xa xb xc)
            | (go_at_call 42; refine (steps_any (((D10.n.alloc _).alloc _).below b13)).mono ?_; rintro e w14 ⟨rfl, rfl⟩))
          go_roundw
          case rel => exact ⟨j + 1, s1, by omega, by omega, by go_num, hn1, ((D10.m.alloc _).alloc _).below b13, ((D10.n.alloc _).alloc _).below b13, D10.cfg.grown (grow (grow_alloc (grow_alloc (Below.refl _ _) _) _) b13), grow (grow_alloc (grow_alloc D10.b _) _) b13⟩
          case measure => simp [intOf]; omega
        · by_cases hk2 : ak = 2
          · subst hk2
            clear hk0 hk1
            go_wp2_with (go_at_call 31; refine (by_any D5.n _).mono ?_; rintro e w6 ⟨rfl, m6, o6, z6⟩; have D6 := D5.atM AP m6 o6; have y0 := (D6).a.c0; have y1 := (D6).a.c1; have y2 := (D6).a.c2; have y3 := (D6).a.c3; have y4 := (D6).a.c4; have yv0 := (D6).v.cfg.c0; have yv1 := (D6).v.cfg.c1; have yv2 := (D6).v.cfg.c2; have yv3 := (D6).v.cfg.c3; have yv4 := (D6).v.cfg.c4; have yv5 := (D6).v.cfg.c5; have yv6 := (D6).v.cfg.c6; have yv7 := (D6).v.c7; have yv8 := (D6).v.c8)
            have D6d := D6.grown ((Below.refl _ _).drew)
            refine wp_region_phase (Only M.has) (fun x y => y = x) (duoN M (s.by aw) q av) [4, 7] [.val (.pointer (some ⟨M.p, 0, none⟩)), .val (.int .i64 q), .val (.pointer (some ⟨M.p, 0, none⟩)), .val (.int .i64 q), .val (.int .u64 (s.wd q)),
              .val (.pointer (some ⟨wr.heap.size, 4, none⟩)), .val (.int .u64 av), .val (.tuple #[.bool true, .int .i64 0]), .val (.tuple #[.bool true, .int .i64 0]), .val (.bool true), .val (.int .i64 0), .val (.bool true), .val (.int .i64 0)]
              (by kernel_rfl) (Only.refl _) (fun _ _ _ h k => h.trans k) (fun x y h => by subst h; exact Only.refl _ _) (fun x y p h k => by subst h; exact k) D6d.n (by kernel_rfl) (by kernel_rfl) (by kernel_rfl) (by kernel_rfl) (by kernel_rfl) ?_
            simp only [phaseAll, Act.put, List.setIfInBounds_toArray, List.set_cons_zero, List.set_cons_succ]
            refine ⟨?_, ?_, ?_, ?_, ?_, ?_, ?_, ?_, ?_, ?_, ?_, ?_, ?_, ?_⟩
            · intro w' hR _
              refine Or.inl ⟨rfl, ?_⟩
              go_simp
              exact ⟨rfl, rfl⟩
            · intro w' hR _
              refine Or.inl ⟨rfl, ?_⟩
              go_simp
              exact ⟨rfl, rfl⟩
            · intro w' hR _
              refine Or.inl ⟨rfl, ?_⟩
              go_simp
              exact ⟨rfl, rfl⟩
            · intro w' hR _
              refine Or.inl ⟨rfl, ?_⟩
              go_simp
              exact ⟨rfl, rfl⟩
            · intro w' hR _ hP
              refine Or.inl ⟨rfl, ?_⟩
              go_simp
              refine (peek_in (s := s.by aw) hP q hqn.out).mono ?_
              rintro e w'' ⟨rfl, rfl⟩
              exact ⟨_, rfl, ⟨Only.refl _ _, hP⟩, rfl⟩
            · intro w' hR _
              refine Or.inl ⟨rfl, ?_⟩
              go_simp
              exact ⟨rfl, rfl⟩
            · intro w' hR _
              refine Or.inl ⟨rfl, ?_⟩
              have yy := (D6d.a.only hR AP.mA).c4
              go_simp
              exact ⟨rfl, rfl⟩
            · intro w' hR _ hP
              refine Or.inl ⟨rfl, ?_⟩
              go_simp
              refine (cas_in (s := s.by aw) hP q hqn.out _ _).mono ?_
              rintro e w'' ⟨rfl, m7, o7, z7⟩
              exact ⟨_, rfl, ⟨o7, by rw [Mm.cas, if_pos (show (s.by aw).wd q = s.wd q from rfl)] at m7; exact m7⟩, by rw [decide_eq_true (show (s.by aw).wd q = s.wd q from rfl)]; rfl⟩
            · intro w' hR _
              refine Or.inl ⟨rfl, ?_⟩
              go_simp
              exact ⟨rfl, rfl⟩
            · intro w' hR _
              refine Or.inl ⟨rfl, ?_⟩
              go_simp
              exact ⟨rfl, rfl⟩
            · intro w' hR _
              refine Or.inl ⟨rfl, ?_⟩
              go_simp
              exact ⟨rfl, rfl⟩
            · intro w' hR _
              refine Or.inl ⟨rfl, ?_⟩
              go_simp
              exact ⟨rfl, rfl⟩
            · intro w' hR _
              refine Or.inl ⟨rfl, ?_⟩
              go_simp
              exact ⟨rfl, rfl⟩
            intro w7 hR hP _
            have D7 := D6d.atM AP hP hR
            clear D6d
            have y0 := (D7).a.c0
            have y1 := (D7).a.c1
            have y2 := (D7).a.c2
            have y3 := (D7).a.c3
            have y4 := (D7).a.c4
            have yv0 := (D7).v.cfg.c0
            have yv1 := (D7).v.cfg.c1
            have yv2 := (D7).v.cfg.c2
            have yv3 := (D7).v.cfg.c3
            have yv4 := (D7).v.cfg.c4
            have yv5 := (D7).v.cfg.c5
            have yv6 := (D7).v.cfg.c6
            have yv7 := (D7).v.c7
            have yv8 := (D7).v.c8
            go_wp2
            have D7d := D7.grown ((Below.refl _ _).drew)
            have hvv : ¬ av = sum64 av 1 := by unfold sum64; have := hfw.1; have := hfw.2; omega
            have HVV : Hid (¬ av = sum64 av 1) := hvv
            clear hvv
            refine wp_region_phase (Only L.has) (fun x y => y = x) (duoM L s aw q av) [4, 7, 15, 17] [.val (.agg #[.int .i64 t', .int .i64 s', .int .i64 k', .int .i64 n', .int .i64 g', .int .i64 p', .int .i64 r', .pointer (some ⟨L.p, 0, none⟩), .int .i64 aw]), .val (.int .i64 q), .val (.pointer (some ⟨L.p, 0, none⟩)), .val (.int .i64 q), .val (.int .u64 (s.wd q)),
              .val (.pointer (some ⟨wr.heap.size, 4, none⟩)), .val (.int .u64 av), .val (.bool true), .val (.bool true), .val (.bool false), .val (.bool false),
              .val (.agg #[.int .i64 t', .int .i64 s', .int .i64 k', .int .i64 n', .int .i64 g', .int .i64 p', .int .i64 r', .pointer (some ⟨L.p, 0, none⟩), .int .i64 aw]), .val (.int .i64 q), .val (.pointer (some ⟨L.p, 0, none⟩)), .val (.int .i64 q), .val (.int .u64 av), .val (.int .u64 (sum64 av 1)), .val (.bool false), .val (.bool false)]
              (by kernel_rfl) (Only.refl _) (fun _ _ _ h k => h.trans k) (fun x y h => by subst h; exact Only.refl _ _) (fun x y p h k => by subst h; exact k) D7d.m (by kernel_rfl) (by kernel_rfl) (by kernel_rfl) (by kernel_rfl) (by kernel_rfl) ?_
            simp only [phaseAll, Act.put, List.setIfInBounds_toArray, List.set_cons_zero, List.set_cons_succ]
            refine ⟨?_, ?_, ?_, ?_, ?_, ?_, ?_, ?_, ?_, ?_, ?_, ?_, ?_, ?_, ?_, ?_, ?_, ?_, ?_, ?_⟩
            · intro w' hR _
              refine Or.inl ⟨rfl, ?_⟩
              have bv := D7d.v.only hR AP.lV
              have yv0 := bv.cfg.c0
              have yv1 := bv.cfg.c1
              have yv2 := bv.cfg.c2
              have yv3 := bv.cfg.c3
              have yv4 := bv.cfg.c4
              have yv5 := bv.cfg.c5
              have yv6 := bv.cfg.c6
              have yv7 := bv.c7
              have yv8 := bv.c8
              go_simp
              exact ⟨rfl, rfl⟩
            · intro w' hR _
              refine Or.inl ⟨rfl, ?_⟩
              go_simp
              exact ⟨rfl, rfl⟩
            · intro w' hR _
              refine Or.inl ⟨rfl, ?_⟩
              go_simp
              exact ⟨rfl, rfl⟩
            · intro w' hR _
              refine Or.inl ⟨rfl, ?_⟩
              go_simp
              exact ⟨rfl, rfl⟩
            · intro w' hR _ hP
              refine Or.inl ⟨rfl, ?_⟩
              go_simp
              refine (peek_in (s := s) hP q hqn.out).mono ?_
              rintro e w'' ⟨rfl, rfl⟩
              exact ⟨_, rfl, ⟨Only.refl _ _, hP⟩, rfl⟩
            · intro w' hR _
              refine Or.inl ⟨rfl, ?_⟩
              go_simp
              exact ⟨rfl, rfl⟩
            · intro w' hR _
              refine Or.inl ⟨rfl, ?_⟩
              have yy := (D7d.a.only hR AP.lA).c4
              go_simp
              exact ⟨rfl, rfl⟩
            · intro w' hR _ hP
              refine Or.inl ⟨rfl, ?_⟩
              go_simp
              refine (ecas_in (s := s) hP _ _ _ _ _ _ _ _ q hqn.out _ _).mono ?_
              rintro e w'' ⟨rfl, m8, o8⟩
              exact ⟨_, rfl, ⟨o8, by rw [Mm.cas, if_pos (show (s.by aw).wd q = s.wd q from rfl)] at m8; exact m8⟩, by rw [decide_eq_true rfl]; rfl⟩
            · intro w' hR _
              refine Or.inl ⟨rfl, ?_⟩
              go_simp
              exact ⟨rfl, rfl⟩
            · intro w' hR _
              refine Or.inl ⟨rfl, ?_⟩
              go_simp
              exact ⟨rfl, rfl⟩
            · intro w' hR _
              refine Or.inl ⟨rfl, ?_⟩
              go_simp
              exact ⟨rfl, rfl⟩
            · intro w' hR _
              refine Or.inl ⟨rfl, ?_⟩
              have bv := D7d.v.only hR AP.lV
              have yv0 := bv.cfg.c0
              have yv1 := bv.cfg.c1
              have yv2 := bv.cfg.c2
              have yv3 := bv.cfg.c3
              have yv4 := bv.cfg.c4
              have yv5 := bv.cfg.c5
              have yv6 := bv.cfg.c6
              have yv7 := bv.c7
              have yv8 := bv.c8
              go_simp
              exact ⟨rfl, rfl⟩
            · intro w' hR _
              refine Or.inl ⟨rfl, ?_⟩
              go_simp
              exact ⟨rfl, rfl⟩
            · intro w' hR _
              refine Or.inl ⟨rfl, ?_⟩
              go_simp
              exact ⟨rfl, rfl⟩
            · intro w' hR _
              refine Or.inl ⟨rfl, ?_⟩
              go_simp
              exact ⟨rfl, rfl⟩
            · intro w' hR _ hP
              refine Or.inl ⟨rfl, ?_⟩
              go_simp
              refine (peek_is (s := (s.by aw).step q av) hP q hqn.out av (upd_same _ _ _)).mono ?_
              rintro e w'' ⟨rfl, rfl⟩
              exact ⟨_, rfl, ⟨Only.refl _ _, hP⟩, rfl⟩
            · intro w' hR _
              refine Or.inl ⟨rfl, ?_⟩
              go_simp
              exact ⟨rfl, rfl⟩
            · intro w' hR _ hP
              refine Or.inl ⟨rfl, ?_⟩
              go_simp
              refine (ecas_in (s := (s.by aw).step q av) hP _ _ _ _ _ _ _ _ q hqn.out _ _).mono ?_
              rintro e w'' ⟨rfl, m8, o8⟩
              have hne : ¬ ((s.by aw).step q av).wd q = sum64 av 1 := by rw [show ((s.by aw).step q av).wd q = av from upd_same _ _ _]; exact HVV.out
              refine ⟨_, rfl, ⟨o8, ?_⟩, by rw [decide_eq_false hne]; rfl⟩
              rw [Mm.cas, if_neg (show ¬ (((s.by aw).step q av).by aw).wd q = sum64 av 1 from hne)] at m8
              rw [show (((s.by aw).step q av).by aw).wd q = av from upd_same _ _ _] at m8
              exact m8
            · intro w' hR _
              refine Or.inl ⟨rfl, ?_⟩
              go_simp
              exact ⟨rfl, rfl⟩
            intro w8 hR hP _
            have D8 := D7d.atL AP hP hR
            clear D7d
            have y0 := (D8).a.c0
            have y1 := (D8).a.c1
            have y2 := (D8).a.c2
            have y3 := (D8).a.c3
            have y4 := (D8).a.c4
            have yv0 := (D8).v.cfg.c0
            have yv1 := (D8).v.cfg.c1
            have yv2 := (D8).v.cfg.c2
            have yv3 := (D8).v.cfg.c3
            have yv4 := (D8).v.cfg.c4
            have yv5 := (D8).v.cfg.c5
            have yv6 := (D8).v.cfg.c6
            have yv7 := (D8).v.c7
            have yv8 := (D8).v.c8
            go_wp2_with (go_at_call 32; refine (load_in D8.n q hqn.out).mono ?_; rintro e w9 ⟨rfl, m9, o9, z9⟩; have D9 := D8.atM AP m9 o9)
            rw [show (Mm.step (s.by aw) q av).wd q = av from upd_same _ _ _] at D9
            obtain ⟨s1, D, hn1, hla, hlw⟩ : ∃ s1 : Mm, Duo w w9 L M s1 s1 w1.heap.size wr.heap.size (wr.heap.size + 1) t' s' k' n' g' p' r' 2 az aw ad av ∧ Hid (s1.n = len) ∧ Hid (s1.la = q) ∧ Hid (s1.lw = aw) := ⟨_, D9, hsn, rfl, rfl⟩
            have hq1 : Hid (q < s1.n) := by rw [hn1.out]; exact HQ.out
            go_wp2_with (first
              | (go_at_call_of 40 (Value.pointer (some ⟨L.p, 0, none⟩)); refine (last_is D.m q aw _ hla.out hlw.out rfl).mono ?_; rintro e w9 ⟨rfl, b9⟩; have D9 := D.grown b9)
              | (go_at_call_of 40 (Value.pointer (some ⟨M.p, 0, none⟩)); refine (last_is D9.n q aw _ hla.out hlw.out rfl).mono ?_; rintro e w10 ⟨rfl, b10⟩; have D10 := D9.grown b10; have yv0 := fun o o' => alloc_cell (alloc_cell (D10).v.cfg.c0 o) o'; have yv1 := fun o o' => alloc_cell (alloc_cell (D10).v.cfg.c1 o) o'; have yv2 := fun o o' => alloc_cell (alloc_cell (D10).v.cfg.c2 o) o'; have yv3 := fun o o' => alloc_cell (alloc_cell (D10).v.cfg.c3 o) o'; have yv4 := fun o o' => alloc_cell (alloc_cell (D10).v.cfg.c4 o) o'; have yv5 := fun o o' => alloc_cell (alloc_cell (D10).v.cfg.c5 o) o'; have yv6 := fun o o' => alloc_cell (alloc_cell (D10).v.cfg.c6 o) o'; have yv7 := fun o o' => alloc_cell (alloc_cell (D10).v.c7 o) o'; have yv8 := fun o o' => alloc_cell (alloc_cell (D10).v.c8 o) o'; have ya2 := fun o o' => alloc_cell (alloc_cell D10.a.c2 o) o')
              | (go_at_call_of 30 (Value.pointer (some ⟨L.p, 0, none⟩)); refine (peek_in ((D10.m.alloc _).alloc _) q hq1.out).mono ?_; rintro e w11 ⟨rfl, rfl⟩)
              | (go_at_call_of 30 (Value.pointer (some ⟨M.p, 0, none⟩)); refine (peek_in ((D10.n.alloc _).alloc _) q hq1.out).mono ?_; rintro e w12 ⟨rfl, rfl⟩)
              | (go_at_call 41; refine (enow_any ((D10.m.alloc _).alloc _) _ _ _ _ _ _ _ _).mono ?_; rintro e w13 ⟨rfl, b13⟩; have ya2' := keep' b13 (ya2 _ _); have xa := b13.cell (p := ⟨w10.heap.size, 0, none⟩) (by simp; omega); have xb := b13.cell (p := ⟨w10.heap.size, 1, none⟩) (by simp; omega); have xc := b13.cell (p := ⟨w10.heap.size + 1, 0, none⟩) (by simp); simp at xa xb xc)
              | (go_at_call 42; refine (steps_any (((D10.n.alloc _).alloc _).below b13)).mono ?_; rintro e w14 ⟨rfl, rfl⟩))
            go_roundw
            case rel => exact ⟨j + 1, s1, by omega, by omega, by go_num, hn1, ((D10.m.alloc _).alloc _).below b13, ((D10.n.alloc _).alloc _).below b13, D10.cfg.grown (grow (grow_alloc (grow_alloc (Below.refl _ _) _) _) b13), grow (grow_alloc (grow_alloc D10.b _) _) b13⟩
            case measure => simp [intOf]; omega
          · have hk0' : ¬ ak = 0 := hk0
            go_wp2_with (first
              | (go_at_call 31; refine (by_any D5.n _).mono ?_; rintro e w6 ⟨rfl, m6, o6, z6⟩; have D6 := D5.atM AP m6 o6; have y0 := (D6).a.c0; have y1 := (D6).a.c1; have y2 := (D6).a.c2; have y3 := (D6).a.c3; have y4 := (D6).a.c4; have yv0 := (D6).v.cfg.c0; have yv1 := (D6).v.cfg.c1; have yv2 := (D6).v.cfg.c2; have yv3 := (D6).v.cfg.c3; have yv4 := (D6).v.cfg.c4; have yv5 := (D6).v.cfg.c5; have yv6 := (D6).v.cfg.c6; have yv7 := (D6).v.c7; have yv8 := (D6).v.c8)
              | (go_at_call 38; refine (eadd_in D6.m _ _ _ _ _ _ _ _ q hqn.out _).mono ?_; rintro e w7 ⟨rfl, m7, o7⟩; have D7 := D6.atL AP m7 o7; have y0 := (D7).a.c0; have y1 := (D7).a.c1; have y2 := (D7).a.c2; have y3 := (D7).a.c3; have y4 := (D7).a.c4; have yv0 := (D7).v.cfg.c0; have yv1 := (D7).v.cfg.c1; have yv2 := (D7).v.cfg.c2; have yv3 := (D7).v.cfg.c3; have yv4 := (D7).v.cfg.c4; have yv5 := (D7).v.cfg.c5; have yv6 := (D7).v.cfg.c6; have yv7 := (D7).v.c7; have yv8 := (D7).v.c8)
              | (go_at_call 39; refine (add_in D7.n q hqn.out _).mono ?_; rintro e w8 ⟨rfl, m8, o8, z8⟩; have D8 := D7.atM AP m8 o8; have y0 := (D8).a.c0; have y1 := (D8).a.c1; have y2 := (D8).a.c2; have y3 := (D8).a.c3; have y4 := (D8).a.c4; have yv0 := (D8).v.cfg.c0; have yv1 := (D8).v.cfg.c1; have yv2 := (D8).v.cfg.c2; have yv3 := (D8).v.cfg.c3; have yv4 := (D8).v.cfg.c4; have yv5 := (D8).v.cfg.c5; have yv6 := (D8).v.cfg.c6; have yv7 := (D8).v.c7; have yv8 := (D8).v.c8))
            obtain ⟨s1, D, hn1, hla, hlw⟩ : ∃ s1 : Mm, Duo w w8 L M s1 s1 w1.heap.size wr.heap.size (wr.heap.size + 1) t' s' k' n' g' p' r' ak az aw ad av ∧ Hid (s1.n = len) ∧ Hid (s1.la = q) ∧ Hid (s1.lw = aw) := ⟨_, D8, hsn, rfl, rfl⟩
            have hq1 : Hid (q < s1.n) := by rw [hn1.out]; exact HQ.out
            go_wp2_with (first
              | (go_at_call_of 40 (Value.pointer (some ⟨L.p, 0, none⟩)); refine (last_is D.m q aw _ hla.out hlw.out rfl).mono ?_; rintro e w9 ⟨rfl, b9⟩; have D9 := D.grown b9)
              | (go_at_call_of 40 (Value.pointer (some ⟨M.p, 0, none⟩)); refine (last_is D9.n q aw _ hla.out hlw.out rfl).mono ?_; rintro e w10 ⟨rfl, b10⟩; have D10 := D9.grown b10; have yv0 := fun o o' => alloc_cell (alloc_cell (D10).v.cfg.c0 o) o'; have yv1 := fun o o' => alloc_cell (alloc_cell (D10).v.cfg.c1 o) o'; have yv2 := fun o o' => alloc_cell (alloc_cell (D10).v.cfg.c2 o) o'; have yv3 := fun o o' => alloc_cell (alloc_cell (D10).v.cfg.c3 o) o'; have yv4 := fun o o' => alloc_cell (alloc_cell (D10).v.cfg.c4 o) o'; have yv5 := fun o o' => alloc_cell (alloc_cell (D10).v.cfg.c5 o) o'; have yv6 := fun o o' => alloc_cell (alloc_cell (D10).v.cfg.c6 o) o'; have yv7 := fun o o' => alloc_cell (alloc_cell (D10).v.c7 o) o'; have yv8 := fun o o' => alloc_cell (alloc_cell (D10).v.c8 o) o'; have ya2 := fun o o' => alloc_cell (alloc_cell D10.a.c2 o) o')
              | (go_at_call_of 30 (Value.pointer (some ⟨L.p, 0, none⟩)); refine (peek_in ((D10.m.alloc _).alloc _) q hq1.out).mono ?_; rintro e w11 ⟨rfl, rfl⟩)
              | (go_at_call_of 30 (Value.pointer (some ⟨M.p, 0, none⟩)); refine (peek_in ((D10.n.alloc _).alloc _) q hq1.out).mono ?_; rintro e w12 ⟨rfl, rfl⟩)
              | (go_at_call 41; refine (enow_any ((D10.m.alloc _).alloc _) _ _ _ _ _ _ _ _).mono ?_; rintro e w13 ⟨rfl, b13⟩; have ya2' := keep' b13 (ya2 _ _); have xa := b13.cell (p := ⟨w10.heap.size, 0, none⟩) (by simp; omega); have xb := b13.cell (p := ⟨w10.heap.size, 1, none⟩) (by simp; omega); have xc := b13.cell (p := ⟨w10.heap.size + 1, 0, none⟩) (by simp); simp at xa xb xc)
              | (go_at_call 42; refine (steps_any (((D10.n.alloc _).alloc _).below b13)).mono ?_; rintro e w14 ⟨rfl, rfl⟩))
            go_roundw
            case rel => exact ⟨j + 1, s1, by omega, by omega, by go_num, hn1, ((D10.m.alloc _).alloc _).below b13, ((D10.n.alloc _).alloc _).below b13, D10.cfg.grown (grow (grow_alloc (grow_alloc (Below.refl _ _) _) _) b13), grow (grow_alloc (grow_alloc D10.b _) _) b13⟩
            case measure => simp [intOf]; omega
    · have hgo' : ¬ (j : Int) < (n : Int) ∨ ((j : Int) < (n : Int) ∧ ¬ (j : Int) < 60) := by omega
      clear hgo
      rcases hgo' with h1 | ⟨h1, h2⟩
      · go_wp2
        go_ret
        exact ⟨rfl, hb⟩
      · go_wp2
        go_ret
        exact ⟨rfl, hb⟩

end Go.Proofs.Ytcdeicbbaidjkaa
