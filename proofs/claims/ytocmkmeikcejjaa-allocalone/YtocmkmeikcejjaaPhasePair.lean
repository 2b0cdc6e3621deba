/- Regions that draw their order and write, in which two blocks are made beside it: they are two. -/
import Derived.Test.YtocmkmeikcejjaaPhaseTail
namespace Go.Proofs.Ytocmkmeikcejjaa
open Go.RowKit

/-- two pointers that were made: they are two -/
structure Pair (dp dq : Nat) (lp lq : Bool) (a : Act) (w : World) : Prop where
  p : lp = true → ∃ X, a.eval (.tmp dp) = .pointer (some ⟨X, 0, none⟩) ∧ X < w.heap.size
  q : lq = true → ∃ X, a.eval (.tmp dq) = .pointer (some ⟨X, 0, none⟩) ∧ X < w.heap.size
  ne : lp = true → lq = true → a.eval (.tmp dp) ≠ a.eval (.tmp dq)

theorem eval_put_ne {a : Act} {d : Option Tmp} {v : Value} {t : Tmp} (h : d ≠ some t) : (a.put d v).eval (.tmp t) = a.eval (.tmp t) := by
  cases d with
  | none => rfl
  | some x =>
    have hx : x ≠ t := fun e => h (by rw [e])
    simp [Act.put, Act.eval, Array.getElem?_setIfInBounds_ne hx]

theorem eval_put_same {a : Act} {v : Value} {t : Tmp} (h : t < a.tmps.size) : (a.put (some t) v).eval (.tmp t) = v := by
  simp [Act.put, Act.eval, h]

theorem Pair.keep {dp dq : Nat} {lp lq : Bool} {a : Act} {w w' : World} (h : Pair dp dq lp lq a w) {d : Option Tmp} {v : Value} (h1 : d ≠ some dp) (h2 : d ≠ some dq) (hs : w.heap.size ≤ w'.heap.size) : Pair dp dq lp lq (a.put d v) w' := by
  refine ⟨fun hl => ?_, fun hl => ?_, fun hl hl' => ?_⟩
  · obtain ⟨X, e, hX⟩ := h.p hl
    exact ⟨X, by rw [eval_put_ne h1]; exact e, by omega⟩
  · obtain ⟨X, e, hX⟩ := h.q hl
    exact ⟨X, by rw [eval_put_ne h2]; exact e, by omega⟩
  · rw [eval_put_ne h1, eval_put_ne h2]; exact h.ne hl hl'

theorem pair_p {dp dq : Nat} {lp lq lp' lq' : Bool} {a : Act} {w w' : World} (h : Pair dp dq lp lq a w) {d : Option Tmp} (hd : d = some dp) (hs : dp < a.tmps.size) (hne : dp ≠ dq) (_ : lp' = true) (hlq : lq' = lq) (hsz : w.heap.size < w'.heap.size) : Pair dp dq lp' lq' (a.put d (.pointer (some ⟨w.heap.size, 0, none⟩))) w' := by
  subst hd hlq
  have e := eval_put_same (v := .pointer (some ⟨w.heap.size, 0, none⟩)) hs
  have e2 : (a.put (some dp) (.pointer (some ⟨w.heap.size, 0, none⟩))).eval (.tmp dq) = a.eval (.tmp dq) := eval_put_ne (fun k => hne (by simpa using k))
  refine ⟨fun _ => ⟨_, e, hsz⟩, fun hl => ?_, fun _ hl => ?_⟩
  · obtain ⟨X, e', hX⟩ := h.q hl
    exact ⟨X, by rw [e2]; exact e', by omega⟩
  · obtain ⟨X, e', hX⟩ := h.q hl
    rw [e, e2, e']
    intro k
    simp only [Value.pointer.injEq, Option.some.injEq, Addr.mk.injEq] at k
    omega

theorem pair_q {dp dq : Nat} {lp lq lp' lq' : Bool} {a : Act} {w w' : World} (h : Pair dp dq lp lq a w) {d : Option Tmp} (hd : d = some dq) (hs : dq < a.tmps.size) (hne : dp ≠ dq) (hlp : lp' = lp) (_ : lq' = true) (hsz : w.heap.size < w'.heap.size) : Pair dp dq lp' lq' (a.put d (.pointer (some ⟨w.heap.size, 0, none⟩))) w' := by
  subst hd hlp
  have e := eval_put_same (v := .pointer (some ⟨w.heap.size, 0, none⟩)) hs
  have e2 : (a.put (some dq) (.pointer (some ⟨w.heap.size, 0, none⟩))).eval (.tmp dp) = a.eval (.tmp dp) := eval_put_ne (fun k => hne (by simpa using k.symm))
  refine ⟨fun hl => ?_, fun _ => ⟨_, e, hsz⟩, fun hl _ => ?_⟩
  · obtain ⟨X, e', hX⟩ := h.p hl
    exact ⟨X, by rw [e2]; exact e', by omega⟩
  · obtain ⟨X, e', hX⟩ := h.p hl
    rw [e, e2, e']
    intro k
    simp only [Value.pointer.injEq, Option.some.injEq, Addr.mk.injEq] at k
    omega

/-- the p-th and the q-th operation make them, and no other of the first m writes where they stand -/
def pairB (ops : Array Oper) (m p q dp dq : Nat) : Bool :=
  decide (p ≠ q) && decide (dp ≠ dq) && (List.range m).all (fun i => match ops[i]? with
    | some o => if i = p then o.dst == some dp && o.guard.isNone else if i = q then o.dst == some dq && o.guard.isNone else o.dst != some dp && o.dst != some dq
    | none => true) && decide (p < m) && decide (q < m)

theorem pair_pq {ops : Array Oper} {m p q dp dq : Nat} (h : pairB ops m p q dp dq = true) : p ≠ q := by
  simp only [pairB, Bool.and_eq_true, decide_eq_true_eq] at h; exact h.1.1.1.1
theorem pair_ne {ops : Array Oper} {m p q dp dq : Nat} (h : pairB ops m p q dp dq = true) : dp ≠ dq := by
  simp only [pairB, Bool.and_eq_true, decide_eq_true_eq] at h; exact h.1.1.1.2
theorem pair_lt {ops : Array Oper} {m p q dp dq : Nat} (h : pairB ops m p q dp dq = true) : p < m ∧ q < m := by
  simp only [pairB, Bool.and_eq_true, decide_eq_true_eq] at h; exact ⟨h.1.2, h.2⟩
theorem pair_dst {ops : Array Oper} {m p q dp dq i : Nat} {o : Oper} (ho : ops[i]? = some o) (hi : i < m) (h : pairB ops m p q dp dq = true) : (i = p → o.dst = some dp) ∧ (i = q → o.dst = some dq) ∧ (i ≠ p → i ≠ q → o.dst ≠ some dp ∧ o.dst ≠ some dq) := by
  have hpq := pair_pq h
  simp only [pairB, Bool.and_eq_true, decide_eq_true_eq] at h
  have h1 := List.all_eq_true.1 h.1.1.2 i (List.mem_range.2 hi)
  simp only [ho] at h1
  refine ⟨fun e => ?_, fun e => ?_, fun e1 e2 => ?_⟩
  · rw [if_pos e] at h1; simp only [Bool.and_eq_true, beq_iff_eq] at h1; exact h1.1
  · rw [if_neg (fun k => hpq (by omega)), if_pos e] at h1; simp only [Bool.and_eq_true, beq_iff_eq] at h1; exact h1.1
  · rw [if_neg e1, if_neg e2] at h1; simpa [Bool.and_eq_true, bne_iff_ne] using h1
theorem pair_guard {ops : Array Oper} {m p q dp dq i : Nat} {o : Oper} (ho : ops[i]? = some o) (h : pairB ops m p q dp dq = true) (e : i = p ∨ i = q) : o.guard = none := by
  have hpq := pair_pq h
  obtain ⟨l1, l2⟩ := pair_lt h
  simp only [pairB, Bool.and_eq_true, decide_eq_true_eq] at h
  have h1 := List.all_eq_true.1 h.1.1.2 i (List.mem_range.2 (by omega))
  simp only [ho] at h1
  rcases e with e | e
  · rw [if_pos e] at h1; simp only [Bool.and_eq_true, Option.isNone_iff_eq_none] at h1; exact h1.2
  · rw [if_neg (fun k => hpq (by omega)), if_pos e] at h1; simp only [Bool.and_eq_true, Option.isNone_iff_eq_none] at h1; exact h1.2

section
variable {P : Program} {ops : Array Oper} {Q : Exit → Act → World → Prop} {R : World → World → Prop}
variable {G : World → World → Prop} {Φ : Nat → World → Prop} {ws : List Nat}

theorem wpAny_phaseP {m g p q dp dq : Nat} {Zp Zq : Obj} {W : World} {ks : List (Want R)} {a : Act} {K : Act → World → Prop} (htr : ∀ x y z, R x y → R y z → R x z) (hGR : ∀ x y, G x y → R x y) (hGΦ : ∀ x y p, G x y → Φ p x → Φ p y)
    (hsz : ops.size = m + g) (htail : g = 0 ∨ (Region.sinkB .any ops m = true ∧ Region.chainB .any ops m = true)) (hsel : Region.noSelect ops = true)
    (hRs : ∀ x y, R x y → x.heap.size ≤ y.heap.size) (hpq : pairB ops m p q dp dq = true) (hdp : dp < a.tmps.size) (hdq : dq < a.tmps.size)
    (hop : ∀ (o : Oper) e w, ops[p]? = some o → (execOp e o).run P w = .ok (.value (.pointer (some ⟨w.heap.size, 0, none⟩))) (w.alloc Zp))
    (hoq : ∀ (o : Oper) e w, ops[q]? = some o → (execOp e o).run P w = .ok (.value (.pointer (some ⟨w.heap.size, 0, none⟩))) (w.alloc Zq)) (hB : relyB ops m = true) (hback : backB ops m = true) (hfo : followB ops ws = true) (hwm : ws.all (· < m) = true)
    (hall : phaseAll P R G Φ ws ops W K 0 (ops.toList.take m) ks [] a)
    (hK : ∀ (a' : Act) (w' : World) (listed : Array Bool), K a' w' → (p < m → q < m → a'.eval (.tmp dp) ≠ a'.eval (.tmp dq)) → listed.size = ops.size → (∀ i, i < ops.size → listed.getD i false = decide (i < m)) → wpAny P .any ops Q g listed a' w') :
    ∀ (f : Nat) (listed : Array Bool) (vs : List Value) (w : World), left m listed = f → HeadInv .any ops m listed → vs.length = m → (∀ (r : Nat) (c : Value), ks[r]? = some (Want.val c) → vs[r]? = some c) →
      (∀ (r : Nat) (k : Want R) (v : Value), ks[r]? = some k → vs[r]? = some v → listed.getD r false = true → k.pred w v) → R W w → Φ (doneN ws listed) w → Pair dp dq (listed.getD p false) (listed.getD q false) (putL (fun k => listed.getD k false) (ops.toList.take m) vs 0 a) w →
      wpAny P .any ops Q (f + g) listed (putL (fun k => listed.getD k false) (ops.toList.take m) vs 0 a) w := by
  have hlen : (ops.toList.take m).length = m := by simp; omega
  have hks : ks.length = m := by rw [phaseAll_length _ _ _ _ _ hall, hlen]
  have hpre : ∀ r, r < m → (ops.toList.take m)[r]? = ops[r]? := fun r hr => by
    rw [List.getElem?_take_of_lt hr]; simp
  intro f
  induction f with
  | zero =>
    intro listed vs w hl inv hvl hvc hp hw hΦ hpr
    have h1 := left_zero hl
    have hne : p < m → q < m → (putL (fun _ => true) (ops.toList.take m) vs 0 a).eval (.tmp dp) ≠ (putL (fun _ => true) (ops.toList.take m) vs 0 a).eval (.tmp dq) := fun h2 h3 => by
      have := hpr.ne (h1 p h2) (h1 q h3)
      rwa [putL_congr (L' := fun _ => true) _ _ _ _ (fun i _ hi => h1 i (by omega))] at this
    rw [Nat.zero_add, putL_congr (L' := fun _ => true) _ _ _ _ (fun i _ hi => h1 i (by omega))]
    have hdone : doneN ws listed = ws.length := by
      unfold doneN
      rw [List.countP_eq_length]
      intro c hc
      exact h1 c (by simpa using List.all_eq_true.1 hwm c hc)
    rw [hdone] at hΦ
    refine hK _ _ listed (phaseAll_end _ ks vs 0 [] a hall (by omega) w hw hΦ trivial fun r k v hk hv => hp r k v hk hv (h1 r ?_)) hne inv.size fun i hi => ?_
    · have := (List.getElem?_eq_some_iff.1 hk).1; omega
    · rcases Nat.lt_or_ge i m with h2 | h2
      · rw [h1 i h2]; simp [h2]
      · rw [getD_both (inv.tail i h2 hi)]; simp; omega
  | succ f ih =>
    intro listed vs w hl inv hvl hvc hp hw hΦ hpr
    rw [show f + 1 + g = (f + g) + 1 from by omega]
    obtain ⟨i0, hi0, hu0, hb0⟩ := left_some m (by omega : left m listed ≠ 0)
    have hu0' : listed.getD i0 true = false := getD_in (by rw [inv.size]; omega) hu0
    refine ⟨fun h0 => ?_, fun i hi => ?_⟩
    · exfalso
      have h1 := List.all_eq_true.1 hback i0 (List.mem_range.2 hi0)
      have hlt : i0 < ops.size := by omega
      rw [Array.getElem?_eq_getElem hlt] at h1
      have h2 : i0 ∈ Region.ready .any ops listed := by
        rw [mem_ready]
        refine ⟨hu0', ops[i0], Array.getElem?_eq_getElem hlt, fun e he hb => ?_⟩
        have := Array.all_eq_true_iff_forall_mem.1 h1 e he
        simp [hb] at this
        exact hb0 _ this
      rw [h0] at h2
      cases h2
    · obtain ⟨hun, o, ho, hafter⟩ := mem_ready.1 hi
      have hin : i < m := by
        rcases Nat.lt_or_ge i m with h | h
        · exact h
        · rcases htail with h0 | ⟨hsink, hchain⟩
          · have := (Array.getElem?_eq_some_iff.1 ho).1; omega
          · have hlt := (Array.getElem?_eq_some_iff.1 ho).1
            exact absurd hi (tail_waits hsink hchain (by omega) inv _ i0 rfl hi0 hu0' i h)
      have hun' := getD_both hun
      have hisz : i < listed.size := by rw [inv.size]; omega
      have inv' := inv.set hi hin
      have hl' : left m (listed.setIfInBounds i true) = f := by have := left_set hisz hun' m hin; omega
      have hset : (listed.setIfInBounds i true).getD i false = true := by simp [hisz]
      have so := relyB_spec hB hin ho
      obtain ⟨k, hk⟩ : ∃ k, ks[i]? = some k := ⟨ks[i], List.getElem?_eq_getElem (by omega)⟩
      have hwaits : ∀ r, Region.waitsFor .any ops i r = true → listed.getD r false = true := fun r hr => by
        obtain ⟨oj, hoj, e, he, hb, hon⟩ := Region.waitsFor_spec hr
        have : oj = o := Option.some.inj (hoj.symm.trans ho)
        subst this
        have h3 := hafter e he hb
        rwa [hon] at h3
      have hst0 := phaseAll_at (i := i) _ ks vs 0 [] a o k hall ((hpre i hin).trans ho) hk (by omega) hvc w hw trivial
        (fun r k' v _ h1 h2 h3 => hp r k' v h1 h2 (hwaits r (by simpa using h3)))
      rw [Nat.zero_add] at hst0
      -- what the operation does, whichever it is
      have hst : phaseStep P (fun x y => R x y ∧ Φ (doneN ws (listed.setIfInBounds i true)) y) ops o (putL (fun q => decide (q < i)) (ops.toList.take m) vs 0 a) w k.pred := by
        have weak : ∀ {E : World → World → Prop} {E' : World → World → Prop} (φ : World → Value → Prop) (x : World) (r : Result Next), (∀ y, E x y → E' x y) → relyUpon P E x φ r → relyUpon P E' x φ r := by
          intro E E' φ x r hE h
          cases r with
          | ok n w' =>
            cases n <;> simp only [relyUpon] at h ⊢
            case value u => exact ⟨hE _ h.1, h.2⟩
            case skip => exact ⟨hE _ h.1, h.2⟩
            case enter fn args => exact h.mono fun e w'' ⟨u, he, h1, h2⟩ => ⟨u, he, hE _ h1, h2⟩
          | halt x w' => simp only [relyUpon] at h
        cases hph : phaseOf ws i with
        | some p =>
          rw [hph] at hst0
          have hd := done_is inv hfo hi hph
          rw [hd] at hΦ
          rw [done_set inv hfo hi hin hisz hph]
          rcases hst0 hΦ with ⟨h1, h2⟩ | ⟨h1, h2, h3⟩
          · exact .inl ⟨h1, weak _ _ _ (fun y hy => hy) h2⟩
          · exact .inr ⟨h1, h2, h3⟩
        | none =>
          rw [hph] at hst0
          rw [done_same hph]
          rcases hst0 with ⟨h1, h2⟩ | ⟨h1, h2, h3⟩
          · exact .inl ⟨h1, weak _ _ _ (fun y hy => ⟨hGR _ _ hy, hGΦ _ _ _ hy hΦ⟩) h2⟩
          · exact .inr ⟨h1, ⟨hGR _ _ h2, hGΦ _ _ _ h2 hΦ⟩, h3⟩
      have hsame : ∀ t, t ∈ o.looksAt ops → (putL (fun k => listed.getD k false) (ops.toList.take m) vs 0 a).eval (.tmp t) = (putL (fun q => decide (q < i)) (ops.toList.take m) vs 0 a).eval (.tmp t) := fun t hlook => by
        refine putL_eval _ _ _ _ _ rfl rfl fun r o' ho' hd => ?_
        have hrm : r < m := by have := (List.getElem?_eq_some_iff.1 ho').1; omega
        obtain ⟨h1, h2⟩ := so.data r o' t hrm ((hpre r hrm).symm.trans ho') hd hlook
        simp only [Nat.zero_add]
        rw [hwaits r h2]; simp [h1]
      have heq : execOp (putL (fun k => listed.getD k false) (ops.toList.take m) vs 0 a).eval o = execOp (putL (fun q => decide (q < i)) (ops.toList.take m) vs 0 a).eval o := by
        refine execOp_congr o (fun cs b => Region.noSelect_spec hsel i o cs b ho) fun x hx => ?_
        cases x with
        | tmp t => exact hsame t (List.mem_append_left _ (List.mem_filterMap.2 ⟨.tmp t, by simpa using hx, rfl⟩))
        | _ => rfl
      have hwant := wanted_same (ops := ops) (o := o) (a := putL (fun k => listed.getD k false) (ops.toList.take m) vs 0 a) (a' := putL (fun q => decide (q < i)) (ops.toList.take m) vs 0 a) (by rw [putL_size, putL_size]) hsame
      -- what follows an operation's outcome
      have next : ∀ (u : Value) (w' : World), (R w w' ∧ Φ (doneN ws (listed.setIfInBounds i true)) w') → k.pred w' u → Pair dp dq ((listed.setIfInBounds i true).getD p false) ((listed.setIfInBounds i true).getD q false) ((putL (fun k => listed.getD k false) (ops.toList.take m) vs 0 a).put o.dst u) w' → wpAny P .any ops Q (f + g) (listed.setIfInBounds i true) ((putL (fun k => listed.getD k false) (ops.toList.take m) vs 0 a).put o.dst u) w' := by
        intro u w' hRΦ hku hpr'
        have hR := hRΦ.1
        have hiv : i < vs.length := by omega
        have hfr : (putL (fun k => listed.getD k false) (ops.toList.take m) vs 0 a).put o.dst u = putL (fun k => (listed.setIfInBounds i true).getD k false) (ops.toList.take m) (vs.set i u) 0 a := by
          rw [putL_vals (L := fun k => listed.getD k false) (ops.toList.take m) vs (vs.set i u) 0 a (by simp) (fun r hr => ?_)]
          · rw [putL_set (L := fun k => listed.getD k false) (L' := fun k => (listed.setIfInBounds i true).getD k false) (i := i) (ops.toList.take m) (vs.set i u) 0 a o u ((hpre i hin).trans ho) (by simp [hiv]) ?_ ?_ ?_ ?_]
            · intro r s x y hx hy hrs d hd
              have hsm : s < m := by have := (List.getElem?_eq_some_iff.1 hy).1; omega
              exact (relyB_spec hB hsm ((hpre s hsm).symm.trans hy)).ap r x d hrs ((hpre r (by omega)).symm.trans hx) hd
            · simpa using hun'
            · simpa using hset
            · intro q hq; exact getD_set_ne false (by omega)
          · have : i ≠ r := fun e => by subst e; simp only [Nat.zero_add] at hr; rw [hun'] at hr; cases hr
            rw [List.getElem?_set_ne this]
        rw [hfr] at hpr' ⊢
        refine ih _ (vs.set i u) w' hl' inv' (by simpa using hvl) (fun r c hc => ?_) (fun r k' v hk' hv hlr => ?_) (htr _ _ _ hw hR) hRΦ.2 hpr'
        · by_cases e : i = r
          · subst e
            rw [hk] at hc
            cases hc
            have : u = c := hku
            subst this
            simp [hiv]
          · rw [List.getElem?_set_ne e]; exact hvc r c hc
        · by_cases e : i = r
          · subst e
            rw [hk] at hk'
            cases hk'
            simp only [List.getElem?_set_self hiv, Option.some.injEq] at hv
            subst hv
            exact hku
          · rw [List.getElem?_set_ne e] at hv
            rw [getD_set_ne false e] at hlr
            exact k'.keeps hR (hp r k' v hk' hv hlr)
      unfold wpOp
      simp only [ho]
      rcases hst with ⟨hwt, hup⟩ | ⟨hwt, hE, hup⟩
      · rw [if_pos (hwant.trans hwt)]
        refine .inl ?_
        unfold Oper.wp
        rw [heq]
        generalize hr : (execOp (putL (fun q => decide (q < i)) (ops.toList.take m) vs 0 a).eval o).run P w = r at *
        have hpn : ∀ u w', r = .ok (.value u) w' → R w w' → Pair dp dq ((listed.setIfInBounds i true).getD p false) ((listed.setIfInBounds i true).getD q false) ((putL (fun k => listed.getD k false) (ops.toList.take m) vs 0 a).put o.dst u) w' := fun u w' hru hR => by
          by_cases e1 : i = p
          · subst e1
            rw [hop o _ w ho] at hr
            rw [← hr] at hru
            cases hru
            exact pair_p hpr ((pair_dst ho hin hpq).1 rfl) (by rw [putL_size]; exact hdp) (pair_ne hpq) hset (getD_set_ne false (pair_pq hpq)) (by rw [Go.Deep.nblk_alloc]; omega)
          · by_cases e2 : i = q
            · subst e2
              rw [hoq o _ w ho] at hr
              rw [← hr] at hru
              cases hru
              exact pair_q hpr ((pair_dst ho hin hpq).2.1 rfl) (by rw [putL_size]; exact hdq) (pair_ne hpq) (getD_set_ne false (Ne.symm (pair_pq hpq))) hset (by rw [Go.Deep.nblk_alloc]; omega)
            · obtain ⟨d1, d2⟩ := (pair_dst ho hin hpq).2.2 e1 e2
              rw [getD_set_ne false e1, getD_set_ne false e2]
              exact hpr.keep d1 d2 (hRs _ _ hR)
        have hpx : ∀ u w', i ≠ p → i ≠ q → R w w' → Pair dp dq ((listed.setIfInBounds i true).getD p false) ((listed.setIfInBounds i true).getD q false) ((putL (fun k => listed.getD k false) (ops.toList.take m) vs 0 a).put o.dst u) w' := fun u w' e1 e2 hR => by
          obtain ⟨d1, d2⟩ := (pair_dst ho hin hpq).2.2 e1 e2
          rw [getD_set_ne false e1, getD_set_ne false e2]
          exact hpr.keep d1 d2 (hRs _ _ hR)
        have hnv : ∀ {x : Next} {w'' : World}, r = .ok x w'' → (∀ u, x ≠ .value u) → i ≠ p ∧ i ≠ q := fun {x w''} hrx hx => by
          refine ⟨fun e => ?_, fun e => ?_⟩
          · subst e
            rw [hop o _ w ho] at hr
            rw [← hr] at hrx
            cases hrx
            exact hx _ rfl
          · subst e
            rw [hoq o _ w ho] at hr
            rw [← hr] at hrx
            cases hrx
            exact hx _ rfl
        cases r with
        | ok n w' =>
          cases n <;> simp only [relyUpon] at hup <;> simp only [Oper.upon]
          case value u => exact next u w' hup.1 hup.2 (hpn u w' rfl hup.1.1)
          case skip => exact next undef w' hup.1 hup.2 (hpx _ _ (hnv rfl (fun _ h => by cases h)).1 (hnv rfl (fun _ h => by cases h)).2 hup.1.1)
          case enter fn args => exact hup.mono fun e w'' ⟨u, he, h1, h2⟩ => by subst he; exact next u w'' h1 h2 (hpx _ _ (hnv rfl (fun _ h => by cases h)).1 (hnv rfl (fun _ h => by cases h)).2 h1.1)
        | halt x w' => simp only [relyUpon] at hup
      · rw [if_neg (by rw [hwant, hwt]; simp)]
        refine next undef w hE hup ?_
        have hg : o.guard = none → False := fun h => by rw [wanted_none h] at hwt; cases hwt
        have e1 : i ≠ p := fun e => hg (pair_guard ho hpq (.inl e))
        have e2 : i ≠ q := fun e => hg (pair_guard ho hpq (.inr e))
        obtain ⟨d1, d2⟩ := (pair_dst ho hin hpq).2.2 e1 e2
        rw [getD_set_ne false e1, getD_set_ne false e2]
        exact hpr.keep d1 d2 (Nat.le_refl _)

/-- **THE REGION**: ws are the places of the operations that write, in their order; from the m-th on they come last, one behind the other -/
theorem wp_region_phase_pair {id : Nat} {l : List Oper} {a : Act} {W : World} (R G : World → World → Prop) (Φ : Nat → World → Prop) (m p q dp dq : Nat) (Zp Zq : Obj) (ws : List Nat) (ks : List (Want R)) (hm : P.follows .mixedOrders = true) (hrefl : ∀ x, R x x) (htr : ∀ x y z, R x y → R y z → R x z)
    (hGR : ∀ x y, G x y → R x y) (hGΦ : ∀ x y p, G x y → Φ p x → Φ p y) (hΦ : Φ 0 W.drew) (hlt : m ≤ l.length)
    (hRs : ∀ x y, R x y → x.heap.size ≤ y.heap.size) (hpq : pairB l.toArray m p q dp dq = true) (hdp : dp < a.tmps.size) (hdq : dq < a.tmps.size)
    (hop : ∀ (o : Oper) e w, l.toArray[p]? = some o → (execOp e o).run P w = .ok (.value (.pointer (some ⟨w.heap.size, 0, none⟩))) (w.alloc Zp))
    (hoq : ∀ (o : Oper) e w, l.toArray[q]? = some o → (execOp e o).run P w = .ok (.value (.pointer (some ⟨w.heap.size, 0, none⟩))) (w.alloc Zq))
    (hsel : Region.noSelect l.toArray = true) (hB : relyB l.toArray m = true) (hback : backB l.toArray m = true) (hfo : followB l.toArray ws = true) (hwm : ws.all (· < m) = true)
    (hsink : Region.sinkB .any l.toArray m = true) (hchain : Region.chainB .any l.toArray m = true) (hseq : Region.seqB .any l.toArray (l.drop m).length m (headListed m (l.drop m).length) = true)
    (hall : phaseAll P R G Φ ws l.toArray W.drew (fun a' w' => a'.eval (.tmp dp) ≠ a'.eval (.tmp dq) → wpList P l.toArray Q (l.drop m) a' w') 0 (l.take m) ks [] a) : (Code.region id l.toArray true).wp P Q a W := by
  refine wp_region_any hm ?_
  have hz : ∀ i, (Array.replicate l.toArray.size false).getD i false = false := fun i => getD_replicate_false _ _
  have hsz : l.toArray.size = m + (l.drop m).length := by simp; omega
  have hlen : ks.length = m := by
    rw [phaseAll_length _ _ _ _ _ hall]; simp; omega
  have h := wpAny_phaseP (P := P) (ops := l.toArray) (Q := Q) (m := m) (g := (l.drop m).length) (W := W.drew) (ks := ks) (a := a) (p := p) (q := q) (dp := dp) (dq := dq) (Zp := Zp) (Zq := Zq) (K := fun a' w' => a'.eval (.tmp dp) ≠ a'.eval (.tmp dq) → wpList P l.toArray Q (l.drop m) a' w') htr hGR hGΦ hsz (.inr ⟨hsink, hchain⟩) hsel hRs hpq hdp hdq hop hoq hB hback hfo hwm (by simpa using hall) ?_ m (Array.replicate l.toArray.size false) (ks.map Want.guess) W.drew ?_ ?_ (by simpa using hlen) (guess_val ks)
    (fun r k v _ _ h => by rw [hz r] at h; cases h) (hrefl _) ?_ ?_
  · rw [putL_none _ _ _ _ (fun i _ => hz i), ← hsz] at h
    exact h
  · intro a' w' listed hk hne hs hL
    have e : listed = headListed m (l.drop m).length := by
      apply Array.ext
      · rw [hs, hsz]; simp [headListed]
      · intro i h1 h2
        have h3 := hL i (by omega)
        simp [h1] at h3
        simp [headListed, h3]
    rw [e]
    exact wpAny_of_seq (l.drop m) m _ a' w' (fun j => by simp [List.getElem?_drop]) hseq (hk (hne (pair_lt hpq).1 (pair_lt hpq).2))
  · unfold left
    rw [List.countP_eq_length.2 (fun i _ => by rw [hz i]; rfl)]
    simp
  · refine ⟨by simp, fun j oj _ h => ?_, fun t ht ht' => by simp at ht'; simp [ht']⟩
    rw [hz j] at h; cases h
  · have : doneN ws (Array.replicate l.toArray.size false) = 0 := by
      unfold doneN
      rw [List.countP_eq_zero]
      intro c _
      rw [hz c]; simp
    rw [this]
    exact hΦ
  · refine ⟨fun h => ?_, fun h => ?_, fun h => ?_⟩ <;> (rw [hz] at h; cases h)

end
end Go.Proofs.Ytocmkmeikcejjaa
