/- Regions that draw their order and write, whose last operations come one behind the other. -/
import Derived.Test.YtkcbfmepaglnoaaPhase
import Derived.Test.YtkcbfmepaglnoaaAllocSolo
namespace Go.Proofs.Ytkcbfmepaglnoaa
open Go.RowKit

section
variable {P : Program} {ops : Array Oper} {Q : Exit → Act → World → Prop} {R : World → World → Prop}
variable {G : World → World → Prop} {Φ : Nat → World → Prop} {ws : List Nat}

theorem wpAny_phaseT {m g : Nat} {W : World} {ks : List (Want R)} {a : Act} {K : Act → World → Prop} (htr : ∀ x y z, R x y → R y z → R x z) (hGR : ∀ x y, G x y → R x y) (hGΦ : ∀ x y p, G x y → Φ p x → Φ p y)
    (hsz : ops.size = m + g) (htail : g = 0 ∨ (Region.sinkB .any ops m = true ∧ Region.chainB .any ops m = true)) (hsel : Region.noSelect ops = true) (hB : relyB ops m = true) (hback : backB ops m = true) (hfo : followB ops ws = true) (hwm : ws.all (· < m) = true)
    (hall : phaseAll P R G Φ ws ops W K 0 (ops.toList.take m) ks [] a)
    (hK : ∀ (a' : Act) (w' : World) (listed : Array Bool), K a' w' → listed.size = ops.size → (∀ i, i < ops.size → listed.getD i false = decide (i < m)) → wpAny P .any ops Q g listed a' w') :
    ∀ (f : Nat) (listed : Array Bool) (vs : List Value) (w : World), left m listed = f → HeadInv .any ops m listed → vs.length = m → (∀ (r : Nat) (c : Value), ks[r]? = some (Want.val c) → vs[r]? = some c) →
      (∀ (r : Nat) (k : Want R) (v : Value), ks[r]? = some k → vs[r]? = some v → listed.getD r false = true → k.pred w v) → R W w → Φ (doneN ws listed) w →
      wpAny P .any ops Q (f + g) listed (putL (fun k => listed.getD k false) (ops.toList.take m) vs 0 a) w := by
  have hlen : (ops.toList.take m).length = m := by simp; omega
  have hks : ks.length = m := by rw [phaseAll_length _ _ _ _ _ hall, hlen]
  have hpre : ∀ r, r < m → (ops.toList.take m)[r]? = ops[r]? := fun r hr => by
    rw [List.getElem?_take_of_lt hr]; simp
  intro f
  induction f with
  | zero =>
    intro listed vs w hl inv hvl hvc hp hw hΦ
    have h1 := left_zero hl
    rw [Nat.zero_add, putL_congr (L' := fun _ => true) _ _ _ _ (fun i _ hi => h1 i (by omega))]
    have hdone : doneN ws listed = ws.length := by
      unfold doneN
      rw [List.countP_eq_length]
      intro c hc
      exact h1 c (by simpa using List.all_eq_true.1 hwm c hc)
    rw [hdone] at hΦ
    refine hK _ _ listed (phaseAll_end _ ks vs 0 [] a hall (by omega) w hw hΦ trivial fun r k v hk hv => hp r k v hk hv (h1 r ?_)) inv.size fun i hi => ?_
    · have := (List.getElem?_eq_some_iff.1 hk).1; omega
    · rcases Nat.lt_or_ge i m with h2 | h2
      · rw [h1 i h2]; simp [h2]
      · rw [getD_both (inv.tail i h2 hi)]; simp; omega
  | succ f ih =>
    intro listed vs w hl inv hvl hvc hp hw hΦ
    rw [show f + 1 + g = (f + g) + 1 from by omega]
    obtain ⟨i0, hi0, hu0, hb0⟩ := left_some m (by omega : left m listed ≠ 0)
    have hu0' : listed.getD i0 true = false := getD_in (by rw [inv.size]; omega) hu0
    refine ⟨fun h0 => ?_, fun i hi => ?_⟩
    · exfalso
      have h1 := List.all_eq_true.1 hback i0 (List.mem_range.2 hi0)
      have hlt : i0 < ops.size := by omega
      rw [Array.getElem?_eq_getElem hlt] at h1
      have h2 : i0 ∈ Region.ready .any ops listed := by
        rw [mem_ready]
        refine ⟨hu0', ops[i0], Array.getElem?_eq_getElem hlt, fun e he hb => ?_⟩
        have := Array.all_eq_true_iff_forall_mem.1 h1 e he
        simp [hb] at this
        exact hb0 _ this
      rw [h0] at h2
      cases h2
    · obtain ⟨hun, o, ho, hafter⟩ := mem_ready.1 hi
      have hin : i < m := by
        rcases Nat.lt_or_ge i m with h | h
        · exact h
        · rcases htail with h0 | ⟨hsink, hchain⟩
          · have := (Array.getElem?_eq_some_iff.1 ho).1; omega
          · have hlt := (Array.getElem?_eq_some_iff.1 ho).1
            exact absurd hi (tail_waits hsink hchain (by omega) inv _ i0 rfl hi0 hu0' i h)
      have hun' := getD_both hun
      have hisz : i < listed.size := by rw [inv.size]; omega
      have inv' := inv.set hi hin
      have hl' : left m (listed.setIfInBounds i true) = f := by have := left_set hisz hun' m hin; omega
      have hset : (listed.setIfInBounds i true).getD i false = true := by simp [hisz]
      have so := relyB_spec hB hin ho
      obtain ⟨k, hk⟩ : ∃ k, ks[i]? = some k := ⟨ks[i], List.getElem?_eq_getElem (by omega)⟩
      have hwaits : ∀ r, Region.waitsFor .any ops i r = true → listed.getD r false = true := fun r hr => by
        obtain ⟨oj, hoj, e, he, hb, hon⟩ := Region.waitsFor_spec hr
        have : oj = o := Option.some.inj (hoj.symm.trans ho)
        subst this
        have h3 := hafter e he hb
        rwa [hon] at h3
      have hst0 := phaseAll_at (i := i) _ ks vs 0 [] a o k hall ((hpre i hin).trans ho) hk (by omega) hvc w hw trivial
        (fun r k' v _ h1 h2 h3 => hp r k' v h1 h2 (hwaits r (by simpa using h3)))
      rw [Nat.zero_add] at hst0
      -- what the operation does, whichever it is
      have hst : phaseStep P (fun x y => R x y ∧ Φ (doneN ws (listed.setIfInBounds i true)) y) ops o (putL (fun q => decide (q < i)) (ops.toList.take m) vs 0 a) w k.pred := by
        have weak : ∀ {E : World → World → Prop} {E' : World → World → Prop} (φ : World → Value → Prop) (x : World) (r : Result Next), (∀ y, E x y → E' x y) → relyUpon P E x φ r → relyUpon P E' x φ r := by
          intro E E' φ x r hE h
          cases r with
          | ok n w' =>
            cases n <;> simp only [relyUpon] at h ⊢
            case value u => exact ⟨hE _ h.1, h.2⟩
            case skip => exact ⟨hE _ h.1, h.2⟩
            case enter fn args => exact h.mono fun e w'' ⟨u, he, h1, h2⟩ => ⟨u, he, hE _ h1, h2⟩
          | halt x w' => simp only [relyUpon] at h
        cases hph : phaseOf ws i with
        | some p =>
          rw [hph] at hst0
          have hd := done_is inv hfo hi hph
          rw [hd] at hΦ
          rw [done_set inv hfo hi hin hisz hph]
          rcases hst0 hΦ with ⟨h1, h2⟩ | ⟨h1, h2, h3⟩
          · exact .inl ⟨h1, weak _ _ _ (fun y hy => hy) h2⟩
          · exact .inr ⟨h1, h2, h3⟩
        | none =>
          rw [hph] at hst0
          rw [done_same hph]
          rcases hst0 with ⟨h1, h2⟩ | ⟨h1, h2, h3⟩
          · exact .inl ⟨h1, weak _ _ _ (fun y hy => ⟨hGR _ _ hy, hGΦ _ _ _ hy hΦ⟩) h2⟩
          · exact .inr ⟨h1, ⟨hGR _ _ h2, hGΦ _ _ _ h2 hΦ⟩, h3⟩
      have hsame : ∀ t, t ∈ o.looksAt ops → (putL (fun k => listed.getD k false) (ops.toList.take m) vs 0 a).eval (.tmp t) = (putL (fun q => decide (q < i)) (ops.toList.take m) vs 0 a).eval (.tmp t) := fun t hlook => by
        refine putL_eval _ _ _ _ _ rfl rfl fun r o' ho' hd => ?_
        have hrm : r < m := by have := (List.getElem?_eq_some_iff.1 ho').1; omega
        obtain ⟨h1, h2⟩ := so.data r o' t hrm ((hpre r hrm).symm.trans ho') hd hlook
        simp only [Nat.zero_add]
        rw [hwaits r h2]; simp [h1]
      have heq : execOp (putL (fun k => listed.getD k false) (ops.toList.take m) vs 0 a).eval o = execOp (putL (fun q => decide (q < i)) (ops.toList.take m) vs 0 a).eval o := by
        refine execOp_congr o (fun cs b => Region.noSelect_spec hsel i o cs b ho) fun x hx => ?_
        cases x with
        | tmp t => exact hsame t (List.mem_append_left _ (List.mem_filterMap.2 ⟨.tmp t, by simpa using hx, rfl⟩))
        | _ => rfl
      have hwant := wanted_same (ops := ops) (o := o) (a := putL (fun k => listed.getD k false) (ops.toList.take m) vs 0 a) (a' := putL (fun q => decide (q < i)) (ops.toList.take m) vs 0 a) (by rw [putL_size, putL_size]) hsame
      -- what follows an operation's outcome
      have next : ∀ (u : Value) (w' : World), (R w w' ∧ Φ (doneN ws (listed.setIfInBounds i true)) w') → k.pred w' u → wpAny P .any ops Q (f + g) (listed.setIfInBounds i true) ((putL (fun k => listed.getD k false) (ops.toList.take m) vs 0 a).put o.dst u) w' := by
        intro u w' hRΦ hku
        have hR := hRΦ.1
        have hiv : i < vs.length := by omega
        have hfr : (putL (fun k => listed.getD k false) (ops.toList.take m) vs 0 a).put o.dst u = putL (fun k => (listed.setIfInBounds i true).getD k false) (ops.toList.take m) (vs.set i u) 0 a := by
          rw [putL_vals (L := fun k => listed.getD k false) (ops.toList.take m) vs (vs.set i u) 0 a (by simp) (fun r hr => ?_)]
          · rw [putL_set (L := fun k => listed.getD k false) (L' := fun k => (listed.setIfInBounds i true).getD k false) (i := i) (ops.toList.take m) (vs.set i u) 0 a o u ((hpre i hin).trans ho) (by simp [hiv]) ?_ ?_ ?_ ?_]
            · intro r s x y hx hy hrs d hd
              have hsm : s < m := by have := (List.getElem?_eq_some_iff.1 hy).1; omega
              exact (relyB_spec hB hsm ((hpre s hsm).symm.trans hy)).ap r x d hrs ((hpre r (by omega)).symm.trans hx) hd
            · simpa using hun'
            · simpa using hset
            · intro q hq; exact getD_set_ne false (by omega)
          · have : i ≠ r := fun e => by subst e; simp only [Nat.zero_add] at hr; rw [hun'] at hr; cases hr
            rw [List.getElem?_set_ne this]
        rw [hfr]
        refine ih _ (vs.set i u) w' hl' inv' (by simpa using hvl) (fun r c hc => ?_) (fun r k' v hk' hv hlr => ?_) (htr _ _ _ hw hR) hRΦ.2
        · by_cases e : i = r
          · subst e
            rw [hk] at hc
            cases hc
            have : u = c := hku
            subst this
            simp [hiv]
          · rw [List.getElem?_set_ne e]; exact hvc r c hc
        · by_cases e : i = r
          · subst e
            rw [hk] at hk'
            cases hk'
            simp only [List.getElem?_set_self hiv, Option.some.injEq] at hv
            subst hv
            exact hku
          · rw [List.getElem?_set_ne e] at hv
            rw [getD_set_ne false e] at hlr
            exact k'.keeps hR (hp r k' v hk' hv hlr)
      unfold wpOp
      simp only [ho]
      rcases hst with ⟨hwt, hup⟩ | ⟨hwt, hE, hup⟩
      · rw [if_pos (hwant.trans hwt)]
        refine .inl ?_
        unfold Oper.wp
        rw [heq]
        generalize (execOp (putL (fun q => decide (q < i)) (ops.toList.take m) vs 0 a).eval o).run P w = r at *
        cases r with
        | ok n w' =>
          cases n <;> simp only [relyUpon] at hup <;> simp only [Oper.upon]
          case value u => exact next u w' hup.1 hup.2
          case skip => exact next undef w' hup.1 hup.2
          case enter fn args => exact hup.mono fun e w'' ⟨u, he, h1, h2⟩ => by subst he; exact next u w'' h1 h2
        | halt x w' => simp only [relyUpon] at hup
      · rw [if_neg (by rw [hwant, hwt]; simp)]
        exact next undef w hE hup

/-- **THE REGION**: ws are the places of the operations that write, in their order; from the m-th on they come last, one behind the other -/
theorem wp_region_phase_tail {id : Nat} {l : List Oper} {a : Act} {W : World} (R G : World → World → Prop) (Φ : Nat → World → Prop) (m : Nat) (ws : List Nat) (ks : List (Want R)) (hm : P.follows .mixedOrders = true) (hrefl : ∀ x, R x x) (htr : ∀ x y z, R x y → R y z → R x z)
    (hGR : ∀ x y, G x y → R x y) (hGΦ : ∀ x y p, G x y → Φ p x → Φ p y) (hΦ : Φ 0 W.drew) (hlt : m ≤ l.length)
    (hsel : Region.noSelect l.toArray = true) (hB : relyB l.toArray m = true) (hback : backB l.toArray m = true) (hfo : followB l.toArray ws = true) (hwm : ws.all (· < m) = true)
    (hsink : Region.sinkB .any l.toArray m = true) (hchain : Region.chainB .any l.toArray m = true) (hseq : Region.seqB .any l.toArray (l.drop m).length m (headListed m (l.drop m).length) = true)
    (hall : phaseAll P R G Φ ws l.toArray W.drew (fun a' w' => wpList P l.toArray Q (l.drop m) a' w') 0 (l.take m) ks [] a) : (Code.region id l.toArray true).wp P Q a W := by
  refine wp_region_any hm ?_
  have hz : ∀ i, (Array.replicate l.toArray.size false).getD i false = false := fun i => getD_replicate_false _ _
  have hsz : l.toArray.size = m + (l.drop m).length := by simp; omega
  have hlen : ks.length = m := by
    rw [phaseAll_length _ _ _ _ _ hall]; simp; omega
  have h := wpAny_phaseT (P := P) (ops := l.toArray) (Q := Q) (m := m) (g := (l.drop m).length) (W := W.drew) (ks := ks) (a := a) (K := fun a' w' => wpList P l.toArray Q (l.drop m) a' w') htr hGR hGΦ hsz (.inr ⟨hsink, hchain⟩) hsel hB hback hfo hwm (by simpa using hall) ?_ m (Array.replicate l.toArray.size false) (ks.map Want.guess) W.drew ?_ ?_ (by simpa using hlen) (guess_val ks)
    (fun r k v _ _ h => by rw [hz r] at h; cases h) (hrefl _) ?_
  · rw [putL_none _ _ _ _ (fun i _ => hz i), ← hsz] at h
    exact h
  · intro a' w' listed hk hs hL
    have e : listed = headListed m (l.drop m).length := by
      apply Array.ext
      · rw [hs, hsz]; simp [headListed]
      · intro i h1 h2
        have h3 := hL i (by omega)
        simp [h1] at h3
        simp [headListed, h3]
    rw [e]
    exact wpAny_of_seq (l.drop m) m _ a' w' (fun j => by simp [List.getElem?_drop]) hseq hk
  · unfold left
    rw [List.countP_eq_length.2 (fun i _ => by rw [hz i]; rfl)]
    simp
  · refine ⟨by simp, fun j oj _ h => ?_, fun t ht ht' => by simp at ht'; simp [ht']⟩
    rw [hz j] at h; cases h
  · have : doneN ws (Array.replicate l.toArray.size false) = 0 := by
      unfold doneN
      rw [List.countP_eq_zero]
      intro c _
      rw [hz c]; simp
    rw [this]
    exact hΦ

end
end Go.Proofs.Ytkcbfmepaglnoaa

/- Objects that are made alone, in an arena of the statements: what each making comes to. -/
namespace Go.Proofs.Ytkcbfmepaglnoaa
open Go.RowKit

/-- an arena, its objects, and who works in it, behind w0 -/
structure Camp (w0 w : World) (L : Loc) (bE t n k m : Nat) (s : Mm) (σ : Nat) (q : Q) (nx : Nat) : Prop where
  mm : MemAt w L s
  tw : Town t n k m s σ q
  cm : Calm t n k m q nx
  v : BoxV w bE t n k m 100 600 3 L.p 0
  b : Below w0.heap.size w0 w

theorem Got.same {k m κ : Nat} {bs : Nat → Nat} {y y' y1 : Y} {nx nx' nx1 : Nat} {τ' τ1 : Pl} (g : Got k m κ bs y nx y' nx' τ') (g1 : Got k m κ bs y nx y1 nx1 τ1) : y1 = y' ∧ nx1 = nx' ∧ τ1 = τ' := by
  cases g with
  | fit i h hu =>
    cases g1 with
    | fit j h' hu' => obtain rfl : i = j := by omega
                      exact ⟨rfl, rfl, rfl⟩
    | new hno _ => exact absurd hu (hno i h)
    | none hno _ => exact absurd hu (hno i h)
  | new hno hn =>
    cases g1 with
    | fit j h' hu' => exact absurd hu' (hno j h')
    | new _ _ => exact ⟨rfl, rfl, rfl⟩
    | none _ h => omega
  | none hno hn =>
    cases g1 with
    | fit j h' hu' => exact absurd hu' (hno j h')
    | new _ h => omega
    | none _ _ => exact ⟨rfl, rfl, rfl⟩

theorem class_fit {Z : Nat} (z2 : Z ≤ 16) : Fit (Z : Int) := ⟨by omega, by omega⟩

section
variable {w0 w w' : World} {L : Loc} {bE t n k m σ nx : Nat} {s : Mm} {q : Q} {own : Bool}

theorem Camp.grown (f : Camp w0 w L bE t n k m s σ q nx) (g : Below w.heap.size w w') : Camp w0 w' L bE t n k m s σ q nx := ⟨f.mm.below g, f.tw, f.cm, f.v.grown g, grow f.b g⟩
theorem Camp.drew (f : Camp w0 w L bE t n k m s σ q nx) : Camp w0 w.drew L bE t n k m s σ q nx := f.grown ((Below.refl _ _).drew)
theorem Camp.alloc (f : Camp w0 w L bE t n k m s σ q nx) (o : Obj) : Camp w0 (w.alloc o) L bE t n k m s σ q nx := f.grown (grow_alloc (Below.refl _ _) _)
theorem Camp.only {s' : Mm} {σ' : Nat} {q' : Q} {nx' : Nat} (f : Camp w0 w L bE t n k m s σ q nx) (a : PlotApart w0 L bE t n k m) (o : Only L.has w w') (mm : MemAt w' L s') (tw : Town t n k m s' σ' q') (cm : Calm t n k m q' nx') : Camp w0 w' L bE t n k m s' σ' q' nx' :=
  ⟨mm, tw, cm, f.v.only o a.e, mgrow f.b o a.l0⟩
theorem Camp.setIn (f : Camp w0 w L bE t n k m s σ q nx) {b : Nat} (hb : w0.heap.size ≤ b) (hbe : bE ≠ b) (hl : ¬ L.has b) (i : Nat) (v : Value) : Camp w0 (w.setCell ⟨b, i, none⟩ v) L bE t n k m s σ q nx :=
  ⟨f.mm.setIn hl i v, f.tw, f.cm, f.v.setIn hbe i v, below_setIn f.b hb i v⟩
theorem Camp.ltE (f : Camp w0 w L bE t n k m s σ q nx) : bE < w.heap.size := World.block_lt_of_cell? _ _ f.v.c0
theorem Camp.ltL (f : Camp w0 w L bE t n k m s σ q nx) : ¬ L.has w.heap.size := fun hh => by have := f.mm.lt _ hh; omega

theorem Camp.first {w0 w1 : World} {L : Loc} {t n k m : Nat} {s : Mm} {σ : Nat} {q : Q} {nx : Nat} (hG : Good t n k m 100 600 3) (mm : MemAt w1 L s) (tw : Town t n k m s σ q) (cm : Calm t n k m q nx) (b : Below w0.heap.size w0 w1) (f : ∀ k, L.has k → w0.heap.size ≤ k) :
    Camp w0 (w1.alloc (.cells #[.int .i64 t, .int .i64 n, .int .i64 k, .int .i64 m, .int .i64 100, .int .i64 600, .int .i64 3, .pointer (some ⟨L.p, 0, none⟩), .int .i64 0] 27)) L w1.heap.size t n k m s σ q nx ∧ PlotApart w0 L w1.heap.size t n k m :=
  ⟨⟨mm.alloc _, tw, cm, BoxV.new, grow_alloc b _⟩, ⟨f, fun hh => by have := mm.lt _ hh; omega, b.size, hG⟩⟩

/-- an object is made -/
theorem Camp.ok {Z κ x : Nat} {F : List Nat} {y' : Y} {nx' A i : Nat} (f : Camp w0 w L bE t n k m s σ q nx) (a : PlotApart w0 L bE t n k m) (z2 : Z ≤ 16) (kz : classOf Z = κ) (hκ : κ < 4) (hF : q.F = x :: F) (g : Got k m κ (base t n k m) q.y nx y' nx' (.won A i)) (hσ : σ + 400 < 1000000) :
    Calls Try.prog 11 #[.agg #[.int .i64 t, .int .i64 n, .int .i64 k, .int .i64 m, .int .i64 100, .int .i64 600, .int .i64 3, .pointer (some ⟨L.p, 0, none⟩), .int .i64 0], .int .i64 Z, .bool own] w fun e w' => ∃ (st : Nat) (s' : Mm) (σ' : Nat), e = .returned (.agg #[.int .i64 0, .int .u64 (packH x 1), .int .i64 0, .int .i64 st]) ∧ σ < st ∧ st < σ' ∧ σ' ≤ σ + 100 ∧ Camp w0 w' L bE t n k m s' σ' (q.made x F y' A i κ Z own) nx' ∧ Only L.has w w' := by
  obtain ⟨N, y1, nx1, τ1, hN, go, g1⟩ := alone_goes (bs := base t n k m) f.cm.al hκ a.g.n0 a.g.k0 a.g.k1
  obtain ⟨rfl, rfl, rfl⟩ := g.same g1
  have hk := a.g.k1
  have hg : genOf (q.sw x) = 1 := by rw [f.cm.sw x (by rw [hF]; simp)]; exact gen1
  have r := runs_made (z := (Z : Int)) (own := own) (σ := σ) hF go
  rw [hg] at r
  refine (make_goes f.mm f.tw a.g (class_fit z2) kz hκ hσ (N := N + 4 + 4) (by omega) r).mono ?_
  rintro e w' ⟨rfl, s', m', t', o'⟩
  exact ⟨_, s', _, rfl, by omega, by omega, by omega, f.only a o' m' t' (f.cm.made hκ a.g.n0 hF f.tw.pile.nd g), o'⟩

/-- there is no slot -/
theorem Camp.empty {Z κ : Nat} (f : Camp w0 w L bE t n k m s σ q nx) (a : PlotApart w0 L bE t n k m) (z2 : Z ≤ 16) (kz : classOf Z = κ) (hκ : κ < 4) (hF : q.F = []) (hσ : σ + 400 < 1000000) :
    Calls Try.prog 11 #[.agg #[.int .i64 t, .int .i64 n, .int .i64 k, .int .i64 m, .int .i64 100, .int .i64 600, .int .i64 3, .pointer (some ⟨L.p, 0, none⟩), .int .i64 0], .int .i64 Z, .bool own] w fun e w' => ∃ (st : Nat) (s' : Mm), e = .returned (.agg #[.int .i64 7, .int .u64 0, .int .i64 0, .int .i64 st]) ∧ Camp w0 w' L bE t n k m s' (σ + 1) q nx ∧ Only L.has w w' := by
  refine (make_goes (own := own) f.mm f.tw a.g (class_fit z2) kz hκ hσ (N := 1) (by omega) (runs_none hF)).mono ?_
  rintro e w' ⟨rfl, s', m', t', o'⟩
  exact ⟨_, s', rfl, f.only a o' m' t' f.cm, o'⟩

/-- there is no room -/
theorem Camp.full {Z κ x : Nat} {F : List Nat} {y' : Y} {nx' : Nat} (f : Camp w0 w L bE t n k m s σ q nx) (a : PlotApart w0 L bE t n k m) (z2 : Z ≤ 16) (kz : classOf Z = κ) (hκ : κ < 4) (hF : q.F = x :: F) (g : Got k m κ (base t n k m) q.y nx y' nx' .none) (hσ : σ + 400 < 1000000) :
    Calls Try.prog 11 #[.agg #[.int .i64 t, .int .i64 n, .int .i64 k, .int .i64 m, .int .i64 100, .int .i64 600, .int .i64 3, .pointer (some ⟨L.p, 0, none⟩), .int .i64 0], .int .i64 Z, .bool own] w fun e w' => ∃ (st : Nat) (s' : Mm) (σ' : Nat), e = .returned (.agg #[.int .i64 6, .int .u64 0, .int .i64 0, .int .i64 st]) ∧ σ' ≤ σ + 100 ∧ Camp w0 w' L bE t n k m s' σ' (q.back x F q.y) nx ∧ Only L.has w w' := by
  obtain ⟨N, y1, nx1, τ1, hN, go, g1⟩ := alone_goes (bs := base t n k m) f.cm.al hκ a.g.n0 a.g.k0 a.g.k1
  obtain ⟨rfl, rfl, rfl⟩ := g.same g1
  have hk := a.g.k1
  have hyy : y1 = q.y := by cases g; rfl
  subst hyy
  refine (make_goes (own := own) f.mm f.tw a.g (class_fit z2) kz hκ hσ (N := N + 3 + 4) (by omega) (runs_back hF go)).mono ?_
  rintro e w' ⟨rfl, s', m', t', o'⟩
  exact ⟨_, s', _, rfl, by omega, f.only a o' m' t' (f.cm.back hF), o'⟩

/-- a size of no class -/
theorem Camp.bad {z : Int} (f : Camp w0 w L bE t n k m s σ q nx) (a : PlotApart w0 L bE t n k m) (hz : classOf z < 0) :
    Calls Try.prog 11 #[.agg #[.int .i64 t, .int .i64 n, .int .i64 k, .int .i64 m, .int .i64 100, .int .i64 600, .int .i64 3, .pointer (some ⟨L.p, 0, none⟩), .int .i64 0], .int .i64 z, .bool own] w fun e w' => e = .returned (.agg #[.int .i64 5, .int .u64 0, .int .i64 0, .int .i64 σ]) ∧ Camp w0 w' L bE t n k m s σ q nx ∧ Only L.has w w' := by
  refine (make_bad (own := own) f.mm f.tw hz).mono ?_
  rintro e w' ⟨rfl, m', o'⟩
  exact ⟨rfl, f.only a o' m' f.tw f.cm, o'⟩

/-- the object that was made is sound -/
theorem Camp.sound {Z κ x : Nat} {F : List Nat} {y' : Y} {nx' A i : Nat} (cm : Calm t n k m q nx) (hx : x < n) (f : Camp w0 w L bE t n k m s σ (q.made x F y' A i κ Z own) nx') (a : PlotApart w0 L bE t n k m) (hn : n ≤ 65535) (hσ : σ ≤ 2000000) (z1 : 1 ≤ Z) (z2 : Z ≤ 16) (kz : classOf Z = κ) (hκ : κ < 4) (hF : q.F = x :: F) (g : Got k m κ (base t n k m) q.y nx y' nx' (.won A i)) :
    Calls Try.prog 13 #[.agg #[.int .i64 t, .int .i64 n, .int .i64 k, .int .i64 m, .int .i64 100, .int .i64 600, .int .i64 3, .pointer (some ⟨L.p, 0, none⟩), .int .i64 0], .int .u64 (packH x 1), .int .i64 Z, .bool own] w fun e w' => e = .returned (.bool true) ∧ Below w.heap.size w w' :=
  sound_any f.mm a.g hn f.tw.len hσ (cm.lives hκ a.g.n0 z1 z2 kz hF hx g f.tw)
end

theorem packH01 : packH ((0 : Nat) : Int) ((1 : Nat) : Int) = 65536 := packH_is 0 1 (by decide) (by decide)
theorem packH11 : packH ((1 : Nat) : Int) ((1 : Nat) : Int) = 65537 := packH_is 1 1 (by decide) (by decide)

theorem arena08 {t n k m : Nat} (hG : Good t n k m 100 600 3) (hn : n ≤ 65535) (w : World) :
    Calls Try.prog 8 #[.int .i64 t, .int .i64 n, .int .i64 k, .int .i64 m] w fun e w' => ∃ (L : Loc) (s : Mm), e = .returned (.tuple #[.agg #[.int .i64 t, .int .i64 n, .int .i64 k, .int .i64 m, .int .i64 100, .int .i64 600, .int .i64 3, .pointer (some ⟨L.p, 0, none⟩), .int .i64 0], .bool true]) ∧ MemAt w' L s ∧ Town t n k m s (1 + 2 * n) (Q.new n) ∧ Below w.heap.size w w' ∧ ∀ k, L.has k → w.heap.size ≤ k := by
  refine (arena04_any hG w).mono ?_
  rintro e w' ⟨L, rfl, m', b, f⟩
  exact ⟨L, _, rfl, m', town0 hG hn, b, f⟩

theorem runs_made' {t n k m κ : Nat} {z : Int} {own : Bool} {q : Q} {σ x : Nat} {F : List Nat} (h : q.F = x :: F) {N : Nat} {y' : Y} {a i : Nat} (g : Goes k m κ (base t n k m) N q.y .see y' (.won a i)) {G : Nat} (hG : genOf (q.sw x) = G) {H : Int} (hH : packH x G = H) {N' st : Nat} (hN : N' = N + 8) (hst : st = σ + N + 7) : Runs t n k m κ z own N' σ q (.take .idle) (q.made x F y' a i κ z own) (.over 0 H st) := by
  subst hG hH
  have r := runs_made (z := z) (own := own) (σ := σ) h g
  rwa [show N + 4 + 4 = N' by omega, show σ + 4 + N + 2 + 1 = st by omega] at r

/-- the chunks of the first object's arena, behind it -/
def y1 : Y := ⟨upd Y.new.ck 0 ⟨1, 0, room 0, (Y.new.ck 0).sp + 1⟩, upd Y.new.op 0 (0 + 1)⟩
theorem alone1 : Alone 2 y1 1 := Got.alone (κ := 0) (m := 20) (bs := fun _ => 0) (y' := y1) (nx' := 0 + 1) (alone0 2) (by decide) (.new (fun i h => by simp [Y.new] at h) (by decide))

/-- the first object's arena, behind the first one, behind the second one -/
def q1 : Q := (Q.new 4).made 0 [1, 2, 3] y1 (base 1 4 2 20 0) 0 0 2 false
def q2 : Q := q1.made 1 [2, 3] ⟨upd y1.ck 0 ⟨1, 0, (y1.ck 0).us + room 0, (y1.ck 0).sp⟩, y1.op⟩ (base 1 4 2 20 0 + (y1.ck 0).us) 0 0 2 true

theorem gen_q1 : genOf (q1.sw 1) = 1 := by
  have e : q1.sw 1 = (Q.new 4).sw 1 := upd_other (Q.new 4).sw 0 1 (packS 1 (base 1 4 2 20 0) (genOf ((Q.new 4).sw 0)) 0) (by decide)
  rw [e]; exact gen1

theorem run1 : Runs 1 4 2 20 0 2 false 15 9 (Q.new 4) (.take .idle) q1 (.over 0 65536 23) := by
  have g : Goes 2 20 0 (base 1 4 2 20) 7 Y.new .see y1 (.won (base 1 4 2 20 0) 0) :=
    .more (y1 := Y.new) (τ1 := .look 0 0) rfl (by simp [turn, Y.new, adv]) rfl (goes_take (y := Y.new) (nx := 0) (by decide) rfl rfl)
  exact runs_made' (q := Q.new 4) (x := 0) (F := [1, 2, 3]) rfl g gen1 packH01 (by decide) (by decide)

theorem run2 : Runs 1 4 2 20 0 2 true 11 24 q1 (.take .idle) q2 (.over 0 65537 34) :=
  runs_made' (q := q1) (x := 1) (F := [2, 3]) rfl (goes_fit (bs := base 1 4 2 20) (m := 20) alone1 (by decide) (i := 0) rfl (by decide)) gen_q1 packH11 (by decide) (by decide)

theorem make1 {w : World} {L : Loc} {s : Mm} (h : MemAt w L s) (hT : Town 1 4 2 20 s 9 (Q.new 4)) :
    Calls Try.prog 11 #[.agg #[.int .i64 1, .int .i64 4, .int .i64 2, .int .i64 20, .int .i64 100, .int .i64 600, .int .i64 3, .pointer (some ⟨L.p, 0, none⟩), .int .i64 0], .int .i64 2, .bool false] w fun e w' => e = .returned (.agg #[.int .i64 0, .int .u64 65536, .int .i64 0, .int .i64 23]) ∧ ∃ s', MemAt w' L s' ∧ Town 1 4 2 20 s' 24 q1 ∧ Only L.has w w' :=
  make_goes h hT (goodp (by omega) (by omega) (by omega) (by omega)) ⟨by decide, by decide⟩ (κ := 0) rfl (by decide) (by decide) (by decide) run1

theorem make2 {w : World} {L : Loc} {s : Mm} (h : MemAt w L s) (hT : Town 1 4 2 20 s 24 q1) :
    Calls Try.prog 11 #[.agg #[.int .i64 1, .int .i64 4, .int .i64 2, .int .i64 20, .int .i64 100, .int .i64 600, .int .i64 3, .pointer (some ⟨L.p, 0, none⟩), .int .i64 0], .int .i64 2, .bool true] w fun e w' => e = .returned (.agg #[.int .i64 0, .int .u64 65537, .int .i64 0, .int .i64 34]) ∧ ∃ s', MemAt w' L s' ∧ Town 1 4 2 20 s' 35 q2 ∧ Only L.has w w' :=
  make_goes h hT (goodp (by omega) (by omega) (by omega) (by omega)) ⟨by decide, by decide⟩ (κ := 0) rfl (by decide) (by decide) (by decide) run2

end Go.Proofs.Ytkcbfmepaglnoaa

/- Regions that draw their order and write, in which two blocks are made beside it: they are two. -/
namespace Go.Proofs.Ytkcbfmepaglnoaa
open Go.RowKit

/-- two pointers that were made: they are two -/
structure Pair (dp dq : Nat) (lp lq : Bool) (a : Act) (w : World) : Prop where
  p : lp = true → ∃ X, a.eval (.tmp dp) = .pointer (some ⟨X, 0, none⟩) ∧ X < w.heap.size
  q : lq = true → ∃ X, a.eval (.tmp dq) = .pointer (some ⟨X, 0, none⟩) ∧ X < w.heap.size
  ne : lp = true → lq = true → a.eval (.tmp dp) ≠ a.eval (.tmp dq)

theorem eval_put_ne {a : Act} {d : Option Tmp} {v : Value} {t : Tmp} (h : d ≠ some t) : (a.put d v).eval (.tmp t) = a.eval (.tmp t) := by
  cases d with
  | none => rfl
  | some x =>
    have hx : x ≠ t := fun e => h (by rw [e])
    simp [Act.put, Act.eval, Array.getElem?_setIfInBounds_ne hx]

theorem eval_put_same {a : Act} {v : Value} {t : Tmp} (h : t < a.tmps.size) : (a.put (some t) v).eval (.tmp t) = v := by
  simp [Act.put, Act.eval, h]

theorem Pair.keep {dp dq : Nat} {lp lq : Bool} {a : Act} {w w' : World} (h : Pair dp dq lp lq a w) {d : Option Tmp} {v : Value} (h1 : d ≠ some dp) (h2 : d ≠ some dq) (hs : w.heap.size ≤ w'.heap.size) : Pair dp dq lp lq (a.put d v) w' := by
  refine ⟨fun hl => ?_, fun hl => ?_, fun hl hl' => ?_⟩
  · obtain ⟨X, e, hX⟩ := h.p hl
    exact ⟨X, by rw [eval_put_ne h1]; exact e, by omega⟩
  · obtain ⟨X, e, hX⟩ := h.q hl
    exact ⟨X, by rw [eval_put_ne h2]; exact e, by omega⟩
  · rw [eval_put_ne h1, eval_put_ne h2]; exact h.ne hl hl'

theorem pair_p {dp dq : Nat} {lp lq lp' lq' : Bool} {a : Act} {w w' : World} (h : Pair dp dq lp lq a w) {d : Option Tmp} (hd : d = some dp) (hs : dp < a.tmps.size) (hne : dp ≠ dq) (_ : lp' = true) (hlq : lq' = lq) (hsz : w.heap.size < w'.heap.size) : Pair dp dq lp' lq' (a.put d (.pointer (some ⟨w.heap.size, 0, none⟩))) w' := by
  subst hd hlq
  have e := eval_put_same (v := .pointer (some ⟨w.heap.size, 0, none⟩)) hs
  have e2 : (a.put (some dp) (.pointer (some ⟨w.heap.size, 0, none⟩))).eval (.tmp dq) = a.eval (.tmp dq) := eval_put_ne (fun k => hne (by simpa using k))
  refine ⟨fun _ => ⟨_, e, hsz⟩, fun hl => ?_, fun _ hl => ?_⟩
  · obtain ⟨X, e', hX⟩ := h.q hl
    exact ⟨X, by rw [e2]; exact e', by omega⟩
  · obtain ⟨X, e', hX⟩ := h.q hl
    rw [e, e2, e']
    intro k
    simp only [Value.pointer.injEq, Option.some.injEq, Addr.mk.injEq] at k
    omega

theorem pair_q {dp dq : Nat} {lp lq lp' lq' : Bool} {a : Act} {w w' : World} (h : Pair dp dq lp lq a w) {d : Option Tmp} (hd : d = some dq) (hs : dq < a.tmps.size) (hne : dp ≠ dq) (hlp : lp' = lp) (_ : lq' = true) (hsz : w.heap.size < w'.heap.size) : Pair dp dq lp' lq' (a.put d (.pointer (some ⟨w.heap.size, 0, none⟩))) w' := by
  subst hd hlp
  have e := eval_put_same (v := .pointer (some ⟨w.heap.size, 0, none⟩)) hs
  have e2 : (a.put (some dq) (.pointer (some ⟨w.heap.size, 0, none⟩))).eval (.tmp dp) = a.eval (.tmp dp) := eval_put_ne (fun k => hne (by simpa using k.symm))
  refine ⟨fun hl => ?_, fun _ => ⟨_, e, hsz⟩, fun hl _ => ?_⟩
  · obtain ⟨X, e', hX⟩ := h.p hl
    exact ⟨X, by rw [e2]; exact e', by omega⟩
  · obtain ⟨X, e', hX⟩ := h.p hl
    rw [e, e2, e']
    intro k
    simp only [Value.pointer.injEq, Option.some.injEq, Addr.mk.injEq] at k
    omega

/-- the p-th and the q-th operation make them, and no other of the first m writes where they stand -/
def pairB (ops : Array Oper) (m p q dp dq : Nat) : Bool :=
  decide (p ≠ q) && decide (dp ≠ dq) && (List.range m).all (fun i => match ops[i]? with
    | some o => if i = p then o.dst == some dp && o.guard.isNone else if i = q then o.dst == some dq && o.guard.isNone else o.dst != some dp && o.dst != some dq
    | none => true) && decide (p < m) && decide (q < m)

theorem pair_pq {ops : Array Oper} {m p q dp dq : Nat} (h : pairB ops m p q dp dq = true) : p ≠ q := by
  simp only [pairB, Bool.and_eq_true, decide_eq_true_eq] at h; exact h.1.1.1.1
theorem pair_ne {ops : Array Oper} {m p q dp dq : Nat} (h : pairB ops m p q dp dq = true) : dp ≠ dq := by
  simp only [pairB, Bool.and_eq_true, decide_eq_true_eq] at h; exact h.1.1.1.2
theorem pair_lt {ops : Array Oper} {m p q dp dq : Nat} (h : pairB ops m p q dp dq = true) : p < m ∧ q < m := by
  simp only [pairB, Bool.and_eq_true, decide_eq_true_eq] at h; exact ⟨h.1.2, h.2⟩
theorem pair_dst {ops : Array Oper} {m p q dp dq i : Nat} {o : Oper} (ho : ops[i]? = some o) (hi : i < m) (h : pairB ops m p q dp dq = true) : (i = p → o.dst = some dp) ∧ (i = q → o.dst = some dq) ∧ (i ≠ p → i ≠ q → o.dst ≠ some dp ∧ o.dst ≠ some dq) := by
  have hpq := pair_pq h
  simp only [pairB, Bool.and_eq_true, decide_eq_true_eq] at h
  have h1 := List.all_eq_true.1 h.1.1.2 i (List.mem_range.2 hi)
  simp only [ho] at h1
  refine ⟨fun e => ?_, fun e => ?_, fun e1 e2 => ?_⟩
  · rw [if_pos e] at h1; simp only [Bool.and_eq_true, beq_iff_eq] at h1; exact h1.1
  · rw [if_neg (fun k => hpq (by omega)), if_pos e] at h1; simp only [Bool.and_eq_true, beq_iff_eq] at h1; exact h1.1
  · rw [if_neg e1, if_neg e2] at h1; simpa [Bool.and_eq_true, bne_iff_ne] using h1
theorem pair_guard {ops : Array Oper} {m p q dp dq i : Nat} {o : Oper} (ho : ops[i]? = some o) (h : pairB ops m p q dp dq = true) (e : i = p ∨ i = q) : o.guard = none := by
  have hpq := pair_pq h
  obtain ⟨l1, l2⟩ := pair_lt h
  simp only [pairB, Bool.and_eq_true, decide_eq_true_eq] at h
  have h1 := List.all_eq_true.1 h.1.1.2 i (List.mem_range.2 (by omega))
  simp only [ho] at h1
  rcases e with e | e
  · rw [if_pos e] at h1; simp only [Bool.and_eq_true, Option.isNone_iff_eq_none] at h1; exact h1.2
  · rw [if_neg (fun k => hpq (by omega)), if_pos e] at h1; simp only [Bool.and_eq_true, Option.isNone_iff_eq_none] at h1; exact h1.2

section
variable {P : Program} {ops : Array Oper} {Q : Exit → Act → World → Prop} {R : World → World → Prop}
variable {G : World → World → Prop} {Φ : Nat → World → Prop} {ws : List Nat}

theorem wpAny_phaseP {m g p q dp dq : Nat} {Zp Zq : Obj} {W : World} {ks : List (Want R)} {a : Act} {K : Act → World → Prop} (htr : ∀ x y z, R x y → R y z → R x z) (hGR : ∀ x y, G x y → R x y) (hGΦ : ∀ x y p, G x y → Φ p x → Φ p y)
    (hsz : ops.size = m + g) (htail : g = 0 ∨ (Region.sinkB .any ops m = true ∧ Region.chainB .any ops m = true)) (hsel : Region.noSelect ops = true)
    (hRs : ∀ x y, R x y → x.heap.size ≤ y.heap.size) (hpq : pairB ops m p q dp dq = true) (hdp : dp < a.tmps.size) (hdq : dq < a.tmps.size)
    (hop : ∀ (o : Oper) e w, ops[p]? = some o → (execOp e o).run P w = .ok (.value (.pointer (some ⟨w.heap.size, 0, none⟩))) (w.alloc Zp))
    (hoq : ∀ (o : Oper) e w, ops[q]? = some o → (execOp e o).run P w = .ok (.value (.pointer (some ⟨w.heap.size, 0, none⟩))) (w.alloc Zq)) (hB : relyB ops m = true) (hback : backB ops m = true) (hfo : followB ops ws = true) (hwm : ws.all (· < m) = true)
    (hall : phaseAll P R G Φ ws ops W K 0 (ops.toList.take m) ks [] a)
    (hK : ∀ (a' : Act) (w' : World) (listed : Array Bool), K a' w' → (p < m → q < m → a'.eval (.tmp dp) ≠ a'.eval (.tmp dq)) → listed.size = ops.size → (∀ i, i < ops.size → listed.getD i false = decide (i < m)) → wpAny P .any ops Q g listed a' w') :
    ∀ (f : Nat) (listed : Array Bool) (vs : List Value) (w : World), left m listed = f → HeadInv .any ops m listed → vs.length = m → (∀ (r : Nat) (c : Value), ks[r]? = some (Want.val c) → vs[r]? = some c) →
      (∀ (r : Nat) (k : Want R) (v : Value), ks[r]? = some k → vs[r]? = some v → listed.getD r false = true → k.pred w v) → R W w → Φ (doneN ws listed) w → Pair dp dq (listed.getD p false) (listed.getD q false) (putL (fun k => listed.getD k false) (ops.toList.take m) vs 0 a) w →
      wpAny P .any ops Q (f + g) listed (putL (fun k => listed.getD k false) (ops.toList.take m) vs 0 a) w := by
  have hlen : (ops.toList.take m).length = m := by simp; omega
  have hks : ks.length = m := by rw [phaseAll_length _ _ _ _ _ hall, hlen]
  have hpre : ∀ r, r < m → (ops.toList.take m)[r]? = ops[r]? := fun r hr => by
    rw [List.getElem?_take_of_lt hr]; simp
  intro f
  induction f with
  | zero =>
    intro listed vs w hl inv hvl hvc hp hw hΦ hpr
    have h1 := left_zero hl
    have hne : p < m → q < m → (putL (fun _ => true) (ops.toList.take m) vs 0 a).eval (.tmp dp) ≠ (putL (fun _ => true) (ops.toList.take m) vs 0 a).eval (.tmp dq) := fun h2 h3 => by
      have := hpr.ne (h1 p h2) (h1 q h3)
      rwa [putL_congr (L' := fun _ => true) _ _ _ _ (fun i _ hi => h1 i (by omega))] at this
    rw [Nat.zero_add, putL_congr (L' := fun _ => true) _ _ _ _ (fun i _ hi => h1 i (by omega))]
    have hdone : doneN ws listed = ws.length := by
      unfold doneN
      rw [List.countP_eq_length]
      intro c hc
      exact h1 c (by simpa using List.all_eq_true.1 hwm c hc)
    rw [hdone] at hΦ
    refine hK _ _ listed (phaseAll_end _ ks vs 0 [] a hall (by omega) w hw hΦ trivial fun r k v hk hv => hp r k v hk hv (h1 r ?_)) hne inv.size fun i hi => ?_
    · have := (List.getElem?_eq_some_iff.1 hk).1; omega
    · rcases Nat.lt_or_ge i m with h2 | h2
      · rw [h1 i h2]; simp [h2]
      · rw [getD_both (inv.tail i h2 hi)]; simp; omega
  | succ f ih =>
    intro listed vs w hl inv hvl hvc hp hw hΦ hpr
    rw [show f + 1 + g = (f + g) + 1 from by omega]
    obtain ⟨i0, hi0, hu0, hb0⟩ := left_some m (by omega : left m listed ≠ 0)
    have hu0' : listed.getD i0 true = false := getD_in (by rw [inv.size]; omega) hu0
    refine ⟨fun h0 => ?_, fun i hi => ?_⟩
    · exfalso
      have h1 := List.all_eq_true.1 hback i0 (List.mem_range.2 hi0)
      have hlt : i0 < ops.size := by omega
      rw [Array.getElem?_eq_getElem hlt] at h1
      have h2 : i0 ∈ Region.ready .any ops listed := by
        rw [mem_ready]
        refine ⟨hu0', ops[i0], Array.getElem?_eq_getElem hlt, fun e he hb => ?_⟩
        have := Array.all_eq_true_iff_forall_mem.1 h1 e he
        simp [hb] at this
        exact hb0 _ this
      rw [h0] at h2
      cases h2
    · obtain ⟨hun, o, ho, hafter⟩ := mem_ready.1 hi
      have hin : i < m := by
        rcases Nat.lt_or_ge i m with h | h
        · exact h
        · rcases htail with h0 | ⟨hsink, hchain⟩
          · have := (Array.getElem?_eq_some_iff.1 ho).1; omega
          · have hlt := (Array.getElem?_eq_some_iff.1 ho).1
            exact absurd hi (tail_waits hsink hchain (by omega) inv _ i0 rfl hi0 hu0' i h)
      have hun' := getD_both hun
      have hisz : i < listed.size := by rw [inv.size]; omega
      have inv' := inv.set hi hin
      have hl' : left m (listed.setIfInBounds i true) = f := by have := left_set hisz hun' m hin; omega
      have hset : (listed.setIfInBounds i true).getD i false = true := by simp [hisz]
      have so := relyB_spec hB hin ho
      obtain ⟨k, hk⟩ : ∃ k, ks[i]? = some k := ⟨ks[i], List.getElem?_eq_getElem (by omega)⟩
      have hwaits : ∀ r, Region.waitsFor .any ops i r = true → listed.getD r false = true := fun r hr => by
        obtain ⟨oj, hoj, e, he, hb, hon⟩ := Region.waitsFor_spec hr
        have : oj = o := Option.some.inj (hoj.symm.trans ho)
        subst this
        have h3 := hafter e he hb
        rwa [hon] at h3
      have hst0 := phaseAll_at (i := i) _ ks vs 0 [] a o k hall ((hpre i hin).trans ho) hk (by omega) hvc w hw trivial
        (fun r k' v _ h1 h2 h3 => hp r k' v h1 h2 (hwaits r (by simpa using h3)))
      rw [Nat.zero_add] at hst0
      -- what the operation does, whichever it is
      have hst : phaseStep P (fun x y => R x y ∧ Φ (doneN ws (listed.setIfInBounds i true)) y) ops o (putL (fun q => decide (q < i)) (ops.toList.take m) vs 0 a) w k.pred := by
        have weak : ∀ {E : World → World → Prop} {E' : World → World → Prop} (φ : World → Value → Prop) (x : World) (r : Result Next), (∀ y, E x y → E' x y) → relyUpon P E x φ r → relyUpon P E' x φ r := by
          intro E E' φ x r hE h
          cases r with
          | ok n w' =>
            cases n <;> simp only [relyUpon] at h ⊢
            case value u => exact ⟨hE _ h.1, h.2⟩
            case skip => exact ⟨hE _ h.1, h.2⟩
            case enter fn args => exact h.mono fun e w'' ⟨u, he, h1, h2⟩ => ⟨u, he, hE _ h1, h2⟩
          | halt x w' => simp only [relyUpon] at h
        cases hph : phaseOf ws i with
        | some p =>
          rw [hph] at hst0
          have hd := done_is inv hfo hi hph
          rw [hd] at hΦ
          rw [done_set inv hfo hi hin hisz hph]
          rcases hst0 hΦ with ⟨h1, h2⟩ | ⟨h1, h2, h3⟩
          · exact .inl ⟨h1, weak _ _ _ (fun y hy => hy) h2⟩
          · exact .inr ⟨h1, h2, h3⟩
        | none =>
          rw [hph] at hst0
          rw [done_same hph]
          rcases hst0 with ⟨h1, h2⟩ | ⟨h1, h2, h3⟩
          · exact .inl ⟨h1, weak _ _ _ (fun y hy => ⟨hGR _ _ hy, hGΦ _ _ _ hy hΦ⟩) h2⟩
          · exact .inr ⟨h1, ⟨hGR _ _ h2, hGΦ _ _ _ h2 hΦ⟩, h3⟩
      have hsame : ∀ t, t ∈ o.looksAt ops → (putL (fun k => listed.getD k false) (ops.toList.take m) vs 0 a).eval (.tmp t) = (putL (fun q => decide (q < i)) (ops.toList.take m) vs 0 a).eval (.tmp t) := fun t hlook => by
        refine putL_eval _ _ _ _ _ rfl rfl fun r o' ho' hd => ?_
        have hrm : r < m := by have := (List.getElem?_eq_some_iff.1 ho').1; omega
        obtain ⟨h1, h2⟩ := so.data r o' t hrm ((hpre r hrm).symm.trans ho') hd hlook
        simp only [Nat.zero_add]
        rw [hwaits r h2]; simp [h1]
      have heq : execOp (putL (fun k => listed.getD k false) (ops.toList.take m) vs 0 a).eval o = execOp (putL (fun q => decide (q < i)) (ops.toList.take m) vs 0 a).eval o := by
        refine execOp_congr o (fun cs b => Region.noSelect_spec hsel i o cs b ho) fun x hx => ?_
        cases x with
        | tmp t => exact hsame t (List.mem_append_left _ (List.mem_filterMap.2 ⟨.tmp t, by simpa using hx, rfl⟩))
        | _ => rfl
      have hwant := wanted_same (ops := ops) (o := o) (a := putL (fun k => listed.getD k false) (ops.toList.take m) vs 0 a) (a' := putL (fun q => decide (q < i)) (ops.toList.take m) vs 0 a) (by rw [putL_size, putL_size]) hsame
      -- what follows an operation's outcome
      have next : ∀ (u : Value) (w' : World), (R w w' ∧ Φ (doneN ws (listed.setIfInBounds i true)) w') → k.pred w' u → Pair dp dq ((listed.setIfInBounds i true).getD p false) ((listed.setIfInBounds i true).getD q false) ((putL (fun k => listed.getD k false) (ops.toList.take m) vs 0 a).put o.dst u) w' → wpAny P .any ops Q (f + g) (listed.setIfInBounds i true) ((putL (fun k => listed.getD k false) (ops.toList.take m) vs 0 a).put o.dst u) w' := by
        intro u w' hRΦ hku hpr'
        have hR := hRΦ.1
        have hiv : i < vs.length := by omega
        have hfr : (putL (fun k => listed.getD k false) (ops.toList.take m) vs 0 a).put o.dst u = putL (fun k => (listed.setIfInBounds i true).getD k false) (ops.toList.take m) (vs.set i u) 0 a := by
          rw [putL_vals (L := fun k => listed.getD k false) (ops.toList.take m) vs (vs.set i u) 0 a (by simp) (fun r hr => ?_)]
          · rw [putL_set (L := fun k => listed.getD k false) (L' := fun k => (listed.setIfInBounds i true).getD k false) (i := i) (ops.toList.take m) (vs.set i u) 0 a o u ((hpre i hin).trans ho) (by simp [hiv]) ?_ ?_ ?_ ?_]
            · intro r s x y hx hy hrs d hd
              have hsm : s < m := by have := (List.getElem?_eq_some_iff.1 hy).1; omega
              exact (relyB_spec hB hsm ((hpre s hsm).symm.trans hy)).ap r x d hrs ((hpre r (by omega)).symm.trans hx) hd
            · simpa using hun'
            · simpa using hset
            · intro q hq; exact getD_set_ne false (by omega)
          · have : i ≠ r := fun e => by subst e; simp only [Nat.zero_add] at hr; rw [hun'] at hr; cases hr
            rw [List.getElem?_set_ne this]
        rw [hfr] at hpr' ⊢
        refine ih _ (vs.set i u) w' hl' inv' (by simpa using hvl) (fun r c hc => ?_) (fun r k' v hk' hv hlr => ?_) (htr _ _ _ hw hR) hRΦ.2 hpr'
        · by_cases e : i = r
          · subst e
            rw [hk] at hc
            cases hc
            have : u = c := hku
            subst this
            simp [hiv]
          · rw [List.getElem?_set_ne e]; exact hvc r c hc
        · by_cases e : i = r
          · subst e
            rw [hk] at hk'
            cases hk'
            simp only [List.getElem?_set_self hiv, Option.some.injEq] at hv
            subst hv
            exact hku
          · rw [List.getElem?_set_ne e] at hv
            rw [getD_set_ne false e] at hlr
            exact k'.keeps hR (hp r k' v hk' hv hlr)
      unfold wpOp
      simp only [ho]
      rcases hst with ⟨hwt, hup⟩ | ⟨hwt, hE, hup⟩
      · rw [if_pos (hwant.trans hwt)]
        refine .inl ?_
        unfold Oper.wp
        rw [heq]
        generalize hr : (execOp (putL (fun q => decide (q < i)) (ops.toList.take m) vs 0 a).eval o).run P w = r at *
        have hpn : ∀ u w', r = .ok (.value u) w' → R w w' → Pair dp dq ((listed.setIfInBounds i true).getD p false) ((listed.setIfInBounds i true).getD q false) ((putL (fun k => listed.getD k false) (ops.toList.take m) vs 0 a).put o.dst u) w' := fun u w' hru hR => by
          by_cases e1 : i = p
          · subst e1
            rw [hop o _ w ho] at hr
            rw [← hr] at hru
            cases hru
            exact pair_p hpr ((pair_dst ho hin hpq).1 rfl) (by rw [putL_size]; exact hdp) (pair_ne hpq) hset (getD_set_ne false (pair_pq hpq)) (by rw [Go.Deep.nblk_alloc]; omega)
          · by_cases e2 : i = q
            · subst e2
              rw [hoq o _ w ho] at hr
              rw [← hr] at hru
              cases hru
              exact pair_q hpr ((pair_dst ho hin hpq).2.1 rfl) (by rw [putL_size]; exact hdq) (pair_ne hpq) (getD_set_ne false (Ne.symm (pair_pq hpq))) hset (by rw [Go.Deep.nblk_alloc]; omega)
            · obtain ⟨d1, d2⟩ := (pair_dst ho hin hpq).2.2 e1 e2
              rw [getD_set_ne false e1, getD_set_ne false e2]
              exact hpr.keep d1 d2 (hRs _ _ hR)
        have hpx : ∀ u w', i ≠ p → i ≠ q → R w w' → Pair dp dq ((listed.setIfInBounds i true).getD p false) ((listed.setIfInBounds i true).getD q false) ((putL (fun k => listed.getD k false) (ops.toList.take m) vs 0 a).put o.dst u) w' := fun u w' e1 e2 hR => by
          obtain ⟨d1, d2⟩ := (pair_dst ho hin hpq).2.2 e1 e2
          rw [getD_set_ne false e1, getD_set_ne false e2]
          exact hpr.keep d1 d2 (hRs _ _ hR)
        have hnv : ∀ {x : Next} {w'' : World}, r = .ok x w'' → (∀ u, x ≠ .value u) → i ≠ p ∧ i ≠ q := fun {x w''} hrx hx => by
          refine ⟨fun e => ?_, fun e => ?_⟩
          · subst e
            rw [hop o _ w ho] at hr
            rw [← hr] at hrx
            cases hrx
            exact hx _ rfl
          · subst e
            rw [hoq o _ w ho] at hr
            rw [← hr] at hrx
            cases hrx
            exact hx _ rfl
        cases r with
        | ok n w' =>
          cases n <;> simp only [relyUpon] at hup <;> simp only [Oper.upon]
          case value u => exact next u w' hup.1 hup.2 (hpn u w' rfl hup.1.1)
          case skip => exact next undef w' hup.1 hup.2 (hpx _ _ (hnv rfl (fun _ h => by cases h)).1 (hnv rfl (fun _ h => by cases h)).2 hup.1.1)
          case enter fn args => exact hup.mono fun e w'' ⟨u, he, h1, h2⟩ => by subst he; exact next u w'' h1 h2 (hpx _ _ (hnv rfl (fun _ h => by cases h)).1 (hnv rfl (fun _ h => by cases h)).2 h1.1)
        | halt x w' => simp only [relyUpon] at hup
      · rw [if_neg (by rw [hwant, hwt]; simp)]
        refine next undef w hE hup ?_
        have hg : o.guard = none → False := fun h => by rw [wanted_none h] at hwt; cases hwt
        have e1 : i ≠ p := fun e => hg (pair_guard ho hpq (.inl e))
        have e2 : i ≠ q := fun e => hg (pair_guard ho hpq (.inr e))
        obtain ⟨d1, d2⟩ := (pair_dst ho hin hpq).2.2 e1 e2
        rw [getD_set_ne false e1, getD_set_ne false e2]
        exact hpr.keep d1 d2 (Nat.le_refl _)

/-- **THE REGION**: ws are the places of the operations that write, in their order; from the m-th on they come last, one behind the other -/
theorem wp_region_phase_pair {id : Nat} {l : List Oper} {a : Act} {W : World} (R G : World → World → Prop) (Φ : Nat → World → Prop) (m p q dp dq : Nat) (Zp Zq : Obj) (ws : List Nat) (ks : List (Want R)) (hm : P.follows .mixedOrders = true) (hrefl : ∀ x, R x x) (htr : ∀ x y z, R x y → R y z → R x z)
    (hGR : ∀ x y, G x y → R x y) (hGΦ : ∀ x y p, G x y → Φ p x → Φ p y) (hΦ : Φ 0 W.drew) (hlt : m ≤ l.length)
    (hRs : ∀ x y, R x y → x.heap.size ≤ y.heap.size) (hpq : pairB l.toArray m p q dp dq = true) (hdp : dp < a.tmps.size) (hdq : dq < a.tmps.size)
    (hop : ∀ (o : Oper) e w, l.toArray[p]? = some o → (execOp e o).run P w = .ok (.value (.pointer (some ⟨w.heap.size, 0, none⟩))) (w.alloc Zp))
    (hoq : ∀ (o : Oper) e w, l.toArray[q]? = some o → (execOp e o).run P w = .ok (.value (.pointer (some ⟨w.heap.size, 0, none⟩))) (w.alloc Zq))
    (hsel : Region.noSelect l.toArray = true) (hB : relyB l.toArray m = true) (hback : backB l.toArray m = true) (hfo : followB l.toArray ws = true) (hwm : ws.all (· < m) = true)
    (hsink : Region.sinkB .any l.toArray m = true) (hchain : Region.chainB .any l.toArray m = true) (hseq : Region.seqB .any l.toArray (l.drop m).length m (headListed m (l.drop m).length) = true)
    (hall : phaseAll P R G Φ ws l.toArray W.drew (fun a' w' => a'.eval (.tmp dp) ≠ a'.eval (.tmp dq) → wpList P l.toArray Q (l.drop m) a' w') 0 (l.take m) ks [] a) : (Code.region id l.toArray true).wp P Q a W := by
  refine wp_region_any hm ?_
  have hz : ∀ i, (Array.replicate l.toArray.size false).getD i false = false := fun i => getD_replicate_false _ _
  have hsz : l.toArray.size = m + (l.drop m).length := by simp; omega
  have hlen : ks.length = m := by
    rw [phaseAll_length _ _ _ _ _ hall]; simp; omega
  have h := wpAny_phaseP (P := P) (ops := l.toArray) (Q := Q) (m := m) (g := (l.drop m).length) (W := W.drew) (ks := ks) (a := a) (p := p) (q := q) (dp := dp) (dq := dq) (Zp := Zp) (Zq := Zq) (K := fun a' w' => a'.eval (.tmp dp) ≠ a'.eval (.tmp dq) → wpList P l.toArray Q (l.drop m) a' w') htr hGR hGΦ hsz (.inr ⟨hsink, hchain⟩) hsel hRs hpq hdp hdq hop hoq hB hback hfo hwm (by simpa using hall) ?_ m (Array.replicate l.toArray.size false) (ks.map Want.guess) W.drew ?_ ?_ (by simpa using hlen) (guess_val ks)
    (fun r k v _ _ h => by rw [hz r] at h; cases h) (hrefl _) ?_ ?_
  · rw [putL_none _ _ _ _ (fun i _ => hz i), ← hsz] at h
    exact h
  · intro a' w' listed hk hne hs hL
    have e : listed = headListed m (l.drop m).length := by
      apply Array.ext
      · rw [hs, hsz]; simp [headListed]
      · intro i h1 h2
        have h3 := hL i (by omega)
        simp [h1] at h3
        simp [headListed, h3]
    rw [e]
    exact wpAny_of_seq (l.drop m) m _ a' w' (fun j => by simp [List.getElem?_drop]) hseq (hk (hne (pair_lt hpq).1 (pair_lt hpq).2))
  · unfold left
    rw [List.countP_eq_length.2 (fun i _ => by rw [hz i]; rfl)]
    simp
  · refine ⟨by simp, fun j oj _ h => ?_, fun t ht ht' => by simp at ht'; simp [ht']⟩
    rw [hz j] at h; cases h
  · have : doneN ws (Array.replicate l.toArray.size false) = 0 := by
      unfold doneN
      rw [List.countP_eq_zero]
      intro c _
      rw [hz c]; simp
    rw [this]
    exact hΦ
  · refine ⟨fun h => ?_, fun h => ?_, fun h => ?_⟩ <;> (rw [hz] at h; cases h)

end
end Go.Proofs.Ytkcbfmepaglnoaa
