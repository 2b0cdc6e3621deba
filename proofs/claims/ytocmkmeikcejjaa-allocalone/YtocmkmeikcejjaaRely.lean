/- A region that draws its order, in whatever order: each operation is looked at once, under what is known of those for which it waits; what one leaves, a value or something that stays true while the others run, is known at the end. Callees may make memory. -/
import Derived.Test.YtocmkmeikcejjaaFloat
namespace Go.Proofs.Ytocmkmeikcejjaa
open Go.RowKit

/-- what is asked of an operation: a value; or something that stays true -/
inductive Want (R : World → World → Prop) where
  | val (c : Value)
  | that (φ : World → Value → Prop) (stays : ∀ w w' v, R w w' → φ w v → φ w' v)

section
variable {P : Program} {ops : Array Oper} {Q : Exit → Act → World → Prop} {R : World → World → Prop}

def Want.pred : Want R → World → Value → Prop
  | .val c, _, v => v = c
  | .that φ _, w, v => φ w v

theorem Want.keeps (k : Want R) {w w' : World} {v : Value} (h : R w w') (hk : k.pred w v) : k.pred w' v := by
  cases k with
  | val c => exact hk
  | that φ st => exact st w w' v h hk

/-- what is asked of an operation's outcome in the world w -/
def relyUpon (P : Program) (R : World → World → Prop) (w : World) (φ : World → Value → Prop) : Result Next → Prop
  | .ok (.value u) w' => R w w' ∧ φ w' u
  | .ok .skip w' => R w w' ∧ φ w' undef
  | .ok (.enter f args) w' => Calls P f args w' (fun e w'' => ∃ u, e = .returned u ∧ R w w'' ∧ φ w'' u)
  | _ => False

def relyStep (P : Program) (R : World → World → Prop) (ops : Array Oper) (o : Oper) (a : Act) (w : World) (φ : World → Value → Prop) : Prop :=
  (Region.wanted o (yielded ops a.tmps) = true ∧ relyUpon P R w φ ((execOp a.eval o).run P w)) ∨ (Region.wanted o (yielded ops a.tmps) = false ∧ φ w undef)

/-- what is known of those for which the i-th waits -/
def factsAt (ops : Array Oper) (i : Nat) (w : World) : List (Nat × (World → Prop)) → Prop
  | [] => True
  | (j, F) :: e => (Region.waitsFor .any ops i j = true → F w) ∧ factsAt ops i w e

def factsAll (w : World) : List (Nat × (World → Prop)) → Prop
  | [] => True
  | (_, F) :: e => F w ∧ factsAll w e

/-- the operations one by one -/
def relyAll (P : Program) (R : World → World → Prop) (ops : Array Oper) (W : World) (K : Act → World → Prop) : Nat → List Oper → List (Want R) → List (Nat × (World → Prop)) → Act → Prop
  | _, [], [], env, a => ∀ w', R W w' → factsAll w' env → K a w'
  | i, o :: os, k :: ks, env, a =>
    (∀ w', R W w' → factsAt ops i w' env → relyStep P R ops o a w' k.pred) ∧
    (match k with
      | .val c => relyAll P R ops W K (i + 1) os ks env (a.put o.dst c)
      | .that φ _ => ∀ v, relyAll P R ops W K (i + 1) os ks ((i, fun w => φ w v) :: env) (a.put o.dst v))
  | _, _, _, _, _ => False

theorem relyAll_length {W : World} {K : Act → World → Prop} : ∀ (os : List Oper) (ks : List (Want R)) (j : Nat) (env : List (Nat × (World → Prop))) (a : Act), relyAll P R ops W K j os ks env a → ks.length = os.length
  | [], [], _, _, _, _ => rfl
  | [], _ :: _, _, _, _, h => by simp [relyAll] at h
  | _ :: _, [], _, _, _, h => by simp [relyAll] at h
  | o :: os, k :: ks, j, env, a, h => by
    have h2 := h.2
    cases k with
    | val c => simpa using relyAll_length os ks (j + 1) _ _ h2
    | that φ st => simpa using relyAll_length os ks (j + 1) _ _ (h2 undef)

theorem relyAll_at {W : World} {K : Act → World → Prop} {i : Nat} : ∀ (os : List Oper) (ks : List (Want R)) (vs : List Value) (j : Nat) (env : List (Nat × (World → Prop))) (a : Act) (o : Oper) (k : Want R),
    relyAll P R ops W K j os ks env a → os[i]? = some o → ks[i]? = some k → vs.length = os.length → (∀ (r : Nat) (c : Value), ks[r]? = some (Want.val c) → vs[r]? = some c) →
    ∀ w', R W w' → factsAt ops (j + i) w' env → (∀ (r : Nat) (k' : Want R) (v : Value), r < i → ks[r]? = some k' → vs[r]? = some v → Region.waitsFor .any ops (j + i) (j + r) = true → k'.pred w' v) →
    relyStep P R ops o (putL (fun q => decide (q < j + i)) os vs j a) w' k.pred := by
  induction i with
  | zero =>
    intro os ks vs j env a o k h ho hk hl hv w' hR hf hp
    match os, ks, ho, hk, h with
    | o' :: os, k' :: ks, ho, hk, h =>
      simp only [List.getElem?_cons_zero, Option.some.injEq] at ho hk
      subst ho hk
      rw [putL_none _ _ _ _ (fun q hq => by simp; omega)]
      exact h.1 w' hR hf
  | succ i ih =>
    intro os ks vs j env a o k h ho hk hl hv w' hR hf hp
    match os, ks, vs, ho, hk, h, hl, hv, hp with
    | o' :: os, k' :: ks, v' :: vs, ho, hk, h, hl, hv, hp =>
      simp only [List.getElem?_cons_succ] at ho hk
      have hv' : ∀ (r : Nat) (c : Value), ks[r]? = some (Want.val c) → vs[r]? = some c := fun r c hc => by simpa using hv (r + 1) c (by simpa using hc)
      have hp' : ∀ (r : Nat) (k' : Want R) (v : Value), r < i → ks[r]? = some k' → vs[r]? = some v → Region.waitsFor .any ops (j + 1 + i) (j + 1 + r) = true → k'.pred w' v := fun r k2 v hr h1 h2 h3 =>
        hp (r + 1) k2 v (by omega) (by simpa using h1) (by simpa using h2) (by rwa [show j + (i + 1) = j + 1 + i from by omega, show j + (r + 1) = j + 1 + r from by omega])
      have e1 : j + (i + 1) = j + 1 + i := by omega
      simp only [putL, show decide (j < j + (i + 1)) = true from by simp, if_true]
      rw [e1] at hf ⊢
      have h2 := h.2
      cases k' with
      | val c =>
        have : v' = c := by simpa using hv 0 c rfl
        subst this
        exact ih os ks vs (j + 1) env _ o k h2 ho hk (by simpa using hl) hv' w' hR hf hp'
      | that φ st =>
        refine ih os ks vs (j + 1) _ _ o k (h2 v') ho hk (by simpa using hl) hv' w' hR ⟨fun hwt => ?_, hf⟩ hp'
        exact hp 0 (.that φ st) v' (by omega) rfl rfl (by rwa [e1])

theorem relyAll_end {W : World} {K : Act → World → Prop} : ∀ (os : List Oper) (ks : List (Want R)) (vs : List Value) (j : Nat) (env : List (Nat × (World → Prop))) (a : Act),
    relyAll P R ops W K j os ks env a → vs.length = os.length → ∀ w', R W w' → factsAll w' env → (∀ (r : Nat) (k : Want R) (v : Value), ks[r]? = some k → vs[r]? = some v → k.pred w' v) → K (putL (fun _ => true) os vs j a) w'
  | [], [], _, _, _, _, h, _, w', hR, hf, _ => by simpa [putL] using h w' hR hf
  | [], _ :: _, _, _, _, _, h, _, _, _, _, _ => by simp [relyAll] at h
  | _ :: _, [], _, _, _, _, h, _, _, _, _, _ => by simp [relyAll] at h
  | _ :: _, _ :: _, [], _, _, _, _, hl, _, _, _, _ => by simp at hl
  | o :: os, k :: ks, v :: vs, j, env, a, h, hl, w', hR, hf, hp => by
    have hp' : ∀ (r : Nat) (k : Want R) (v : Value), ks[r]? = some k → vs[r]? = some v → k.pred w' v := fun r k2 v2 h1 h2 => hp (r + 1) k2 v2 (by simpa using h1) (by simpa using h2)
    have h0 := hp 0 k v rfl rfl
    have h2 := h.2
    simp only [putL, if_true]
    cases k with
    | val c =>
      have : v = c := h0
      subst this
      exact relyAll_end os ks vs (j + 1) env _ h2 (by simpa using hl) w' hR hf hp'
    | that φ st => exact relyAll_end os ks vs (j + 1) _ _ (h2 v) (by simpa using hl) w' hR ⟨h0, hf⟩ hp'

/-- of the first m operations: each looks just at what those lay for which it waits; no two lay the same slot -/
def relyB (ops : Array Oper) (m : Nat) : Bool :=
  (List.range m).all fun j => match ops[j]? with
    | none => false
    | some o => (List.range m).all fun i => match (ops[i]?).bind (·.dst) with
      | none => true
      | some d => (!(o.looksAt ops).contains d || (decide (i < j) && Region.waitsFor .any ops j i)) && (decide (i ≥ j) || o.dst != some d)

structure RelyOp (ops : Array Oper) (m j : Nat) (o : Oper) : Prop where
  data : ∀ i x d, i < m → ops[i]? = some x → x.dst = some d → d ∈ o.looksAt ops → i < j ∧ Region.waitsFor .any ops j i = true
  ap : ∀ i x d, i < j → ops[i]? = some x → x.dst = some d → o.dst ≠ some d

theorem relyB_spec {m j : Nat} {o : Oper} (h : relyB ops m = true) (hj : j < m) (ho : ops[j]? = some o) : RelyOp ops m j o := by
  have h1 := List.all_eq_true.1 h j (List.mem_range.2 hj)
  rw [ho] at h1
  have key : ∀ i x d, i < m → ops[i]? = some x → x.dst = some d → ((!(o.looksAt ops).contains d || (decide (i < j) && Region.waitsFor .any ops j i)) && (decide (i ≥ j) || o.dst != some d)) = true := by
    intro i x d hi hx hd
    have := List.all_eq_true.1 h1 i (List.mem_range.2 hi)
    rw [hx] at this
    simpa [hd] using this
  refine ⟨fun i x d hi hx hd hl => ?_, fun i x d hi hx hd => ?_⟩
  · have := key i x d hi hx hd
    simp only [Bool.and_eq_true, Bool.or_eq_true, Bool.not_eq_true', decide_eq_true_eq] at this
    rcases this.1 with h2 | h2
    · simp [hl] at h2
    · exact h2
  · have := key i x d (by omega) hx hd
    simp only [Bool.and_eq_true, Bool.or_eq_true, decide_eq_true_eq, bne_iff_ne, ne_eq] at this
    rcases this.2 with h2 | h2
    · omega
    · exact h2

theorem putL_vals {L : Nat → Bool} : ∀ (os : List Oper) (vs vs' : List Value) (j : Nat) (a : Act), vs.length = vs'.length → (∀ r, L (j + r) = true → vs[r]? = vs'[r]?) → putL L os vs j a = putL L os vs' j a
  | [], _, _, _, _, _, _ => by simp [putL]
  | _ :: _, [], [], _, _, _, _ => rfl
  | _ :: _, [], _ :: _, _, _, h, _ => by simp at h
  | _ :: _, _ :: _, [], _, _, h, _ => by simp at h
  | o :: os, v :: vs, v' :: vs', j, a, hl, h => by
    simp only [putL]
    have h0 := h 0
    simp only [Nat.add_zero, List.getElem?_cons_zero, Option.some.injEq] at h0
    have e : (if L j = true then a.put o.dst v else a) = (if L j = true then a.put o.dst v' else a) := by
      split
      · rw [h0 ‹_›]
      · rfl
    rw [e]
    exact putL_vals os vs vs' (j + 1) _ (by simpa using hl) fun r hr => by
      have := h (r + 1) (by rwa [show j + (r + 1) = j + 1 + r from by omega])
      simpa using this

theorem putL_size {L : Nat → Bool} : ∀ (os : List Oper) (vs : List Value) (j : Nat) (a : Act), (putL L os vs j a).tmps.size = a.tmps.size
  | [], _, _, _ => by simp [putL]
  | _ :: _, [], _, _ => by simp [putL]
  | o :: os, v :: vs, j, a => by
    simp only [putL]
    rw [putL_size os vs (j + 1)]
    split <;> simp [put_size]

theorem wanted_same {o : Oper} {a a' : Act} (hs : a.tmps.size = a'.tmps.size) (h : ∀ t, t ∈ o.looksAt ops → a.eval (.tmp t) = a'.eval (.tmp t)) :
    Region.wanted o (yielded ops a.tmps) = Region.wanted o (yielded ops a'.tmps) := by
  unfold Region.wanted
  cases hg : o.guard with
  | none => rfl
  | some gw =>
    obtain ⟨g, want⟩ := gw
    have hy : yielded ops a.tmps g = yielded ops a'.tmps g := by
      unfold yielded
      cases ht : (ops[g]?).bind (·.dst) with
      | none => rfl
      | some t =>
        have he := h t (by simp [Oper.looksAt, hg, ht])
        have : a.tmps[t]? = a'.tmps[t]? := by
          simp only [Act.eval, Array.getD_eq_getD_getElem?] at he
          rcases Nat.lt_or_ge t a.tmps.size with h1 | h1
          · rw [Array.getElem?_eq_getElem h1, Array.getElem?_eq_getElem (hs ▸ h1)] at he ⊢
            simpa using he
          · rw [Array.getElem?_eq_none h1, Array.getElem?_eq_none (hs ▸ h1)]
        simp only [Option.bind_some, this]
    simp only [hy]

theorem wpAny_rely {m g : Nat} {W : World} {ks : List (Want R)} {a : Act} {K : Act → World → Prop} (hrefl : ∀ x, R x x) (htr : ∀ x y z, R x y → R y z → R x z)
    (hsz : ops.size = m + g) (hsel : Region.noSelect ops = true) (hB : relyB ops m = true) (hback : backB ops m = true)
    (htail : g = 0 ∨ (Region.sinkB .any ops m = true ∧ Region.chainB .any ops m = true))
    (hall : relyAll P R ops W K 0 (ops.toList.take m) ks [] a)
    (hK : ∀ (a' : Act) (w' : World) (listed : Array Bool), K a' w' → listed.size = ops.size → (∀ i, i < ops.size → listed.getD i false = decide (i < m)) → wpAny P .any ops Q g listed a' w') :
    ∀ (f : Nat) (listed : Array Bool) (vs : List Value) (w : World), left m listed = f → HeadInv .any ops m listed → vs.length = m → (∀ (r : Nat) (c : Value), ks[r]? = some (Want.val c) → vs[r]? = some c) →
      (∀ (r : Nat) (k : Want R) (v : Value), ks[r]? = some k → vs[r]? = some v → listed.getD r false = true → k.pred w v) → R W w →
      wpAny P .any ops Q (f + g) listed (putL (fun k => listed.getD k false) (ops.toList.take m) vs 0 a) w := by
  have hlen : (ops.toList.take m).length = m := by simp; omega
  have hks : ks.length = m := by rw [relyAll_length _ _ _ _ _ hall, hlen]
  have hpre : ∀ r, r < m → (ops.toList.take m)[r]? = ops[r]? := fun r hr => by
    rw [List.getElem?_take_of_lt hr]; simp
  intro f
  induction f with
  | zero =>
    intro listed vs w hl inv hvl hvc hp hw
    have h1 := left_zero hl
    rw [Nat.zero_add, putL_congr (L' := fun _ => true) _ _ _ _ (fun i _ hi => h1 i (by omega))]
    refine hK _ _ listed (relyAll_end _ ks vs 0 [] a hall (by omega) w hw trivial fun r k v hk hv => hp r k v hk hv (h1 r ?_)) inv.size fun i hi => ?_
    · have := (List.getElem?_eq_some_iff.1 hk).1; omega
    · rcases Nat.lt_or_ge i m with h2 | h2
      · rw [h1 i h2]; simp [h2]
      · rw [getD_both (inv.tail i h2 hi)]; simp; omega
  | succ f ih =>
    intro listed vs w hl inv hvl hvc hp hw
    rw [show f + 1 + g = (f + g) + 1 from by omega]
    obtain ⟨i0, hi0, hu0, hb0⟩ := left_some m (by omega : left m listed ≠ 0)
    have hu0' : listed.getD i0 true = false := getD_in (by rw [inv.size]; omega) hu0
    refine ⟨fun h0 => ?_, fun i hi => ?_⟩
    · exfalso
      have h1 := List.all_eq_true.1 hback i0 (List.mem_range.2 hi0)
      have hlt : i0 < ops.size := by omega
      rw [Array.getElem?_eq_getElem hlt] at h1
      have h2 : i0 ∈ Region.ready .any ops listed := by
        rw [mem_ready]
        refine ⟨hu0', ops[i0], Array.getElem?_eq_getElem hlt, fun e he hb => ?_⟩
        have := Array.all_eq_true_iff_forall_mem.1 h1 e he
        simp [hb] at this
        exact hb0 _ this
      rw [h0] at h2
      cases h2
    · obtain ⟨hun, o, ho, hafter⟩ := mem_ready.1 hi
      have hin : i < m := by
        rcases Nat.lt_or_ge i m with h | h
        · exact h
        · rcases htail with h0 | ⟨hsink, hchain⟩
          · have := (Array.getElem?_eq_some_iff.1 ho).1; omega
          · have hlt := (Array.getElem?_eq_some_iff.1 ho).1
            exact absurd hi (tail_waits hsink hchain (by omega) inv _ i0 rfl hi0 hu0' i h)
      have hun' := getD_both hun
      have hisz : i < listed.size := by rw [inv.size]; omega
      have inv' := inv.set hi hin
      have hl' : left m (listed.setIfInBounds i true) = f := by have := left_set hisz hun' m hin; omega
      have hset : (listed.setIfInBounds i true).getD i false = true := by simp [hisz]
      have so := relyB_spec hB hin ho
      obtain ⟨k, hk⟩ : ∃ k, ks[i]? = some k := ⟨ks[i], List.getElem?_eq_getElem (by omega)⟩
      have hwaits : ∀ r, Region.waitsFor .any ops i r = true → listed.getD r false = true := fun r hr => by
        obtain ⟨oj, hoj, e, he, hb, hon⟩ := Region.waitsFor_spec hr
        have : oj = o := Option.some.inj (hoj.symm.trans ho)
        subst this
        have h3 := hafter e he hb
        rwa [hon] at h3
      have hst := relyAll_at (i := i) _ ks vs 0 [] a o k hall ((hpre i hin).trans ho) hk (by omega) hvc w hw trivial
        (fun r k' v _ h1 h2 h3 => hp r k' v h1 h2 (hwaits r (by simpa using h3)))
      have hsame : ∀ t, t ∈ o.looksAt ops → (putL (fun k => listed.getD k false) (ops.toList.take m) vs 0 a).eval (.tmp t) = (putL (fun q => decide (q < 0 + i)) (ops.toList.take m) vs 0 a).eval (.tmp t) := fun t hlook => by
        refine putL_eval _ _ _ _ _ rfl rfl fun r o' ho' hd => ?_
        have hrm : r < m := by have := (List.getElem?_eq_some_iff.1 ho').1; omega
        obtain ⟨h1, h2⟩ := so.data r o' t hrm ((hpre r hrm).symm.trans ho') hd hlook
        simp only [Nat.zero_add]
        rw [hwaits r h2]; simp [h1]
      have heq : execOp (putL (fun k => listed.getD k false) (ops.toList.take m) vs 0 a).eval o = execOp (putL (fun q => decide (q < 0 + i)) (ops.toList.take m) vs 0 a).eval o := by
        refine execOp_congr o (fun cs b => Region.noSelect_spec hsel i o cs b ho) fun x hx => ?_
        cases x with
        | tmp t => exact hsame t (List.mem_append_left _ (List.mem_filterMap.2 ⟨.tmp t, by simpa using hx, rfl⟩))
        | _ => rfl
      have hwant := wanted_same (ops := ops) (o := o) (a := putL (fun k => listed.getD k false) (ops.toList.take m) vs 0 a) (a' := putL (fun q => decide (q < 0 + i)) (ops.toList.take m) vs 0 a) (by rw [putL_size, putL_size]) hsame
      -- what follows an operation's outcome
      have next : ∀ (u : Value) (w' : World), R w w' → k.pred w' u → wpAny P .any ops Q (f + g) (listed.setIfInBounds i true) ((putL (fun k => listed.getD k false) (ops.toList.take m) vs 0 a).put o.dst u) w' := by
        intro u w' hR hku
        have hiv : i < vs.length := by omega
        have hfr : (putL (fun k => listed.getD k false) (ops.toList.take m) vs 0 a).put o.dst u = putL (fun k => (listed.setIfInBounds i true).getD k false) (ops.toList.take m) (vs.set i u) 0 a := by
          rw [putL_vals (L := fun k => listed.getD k false) (ops.toList.take m) vs (vs.set i u) 0 a (by simp) (fun r hr => ?_)]
          · rw [putL_set (L := fun k => listed.getD k false) (L' := fun k => (listed.setIfInBounds i true).getD k false) (i := i) (ops.toList.take m) (vs.set i u) 0 a o u ((hpre i hin).trans ho) (by simp [hiv]) ?_ ?_ ?_ ?_]
            · intro r s x y hx hy hrs d hd
              have hsm : s < m := by have := (List.getElem?_eq_some_iff.1 hy).1; omega
              exact (relyB_spec hB hsm ((hpre s hsm).symm.trans hy)).ap r x d hrs ((hpre r (by omega)).symm.trans hx) hd
            · simpa using hun'
            · simpa using hset
            · intro q hq; exact getD_set_ne false (by omega)
          · have : i ≠ r := fun e => by subst e; simp only [Nat.zero_add] at hr; rw [hun'] at hr; cases hr
            rw [List.getElem?_set_ne this]
        rw [hfr]
        refine ih _ (vs.set i u) w' hl' inv' (by simpa using hvl) (fun r c hc => ?_) (fun r k' v hk' hv hlr => ?_) (htr _ _ _ hw hR)
        · by_cases e : i = r
          · subst e
            rw [hk] at hc
            cases hc
            have : u = c := hku
            subst this
            simp [hiv]
          · rw [List.getElem?_set_ne e]; exact hvc r c hc
        · by_cases e : i = r
          · subst e
            rw [hk] at hk'
            cases hk'
            simp only [List.getElem?_set_self hiv, Option.some.injEq] at hv
            subst hv
            exact hku
          · rw [List.getElem?_set_ne e] at hv
            rw [getD_set_ne false e] at hlr
            exact k'.keeps hR (hp r k' v hk' hv hlr)
      unfold wpOp
      simp only [ho]
      rcases hst with ⟨hwt, hup⟩ | ⟨hwt, hup⟩
      · rw [if_pos (hwant.trans hwt)]
        refine .inl ?_
        unfold Oper.wp
        rw [heq]
        generalize (execOp (putL (fun q => decide (q < 0 + i)) (ops.toList.take m) vs 0 a).eval o).run P w = r at *
        cases r with
        | ok n w' =>
          cases n <;> simp only [relyUpon] at hup <;> simp only [Oper.upon]
          case value u => exact next u w' hup.1 hup.2
          case skip => exact next undef w' hup.1 hup.2
          case enter fn args => exact hup.mono fun e w'' ⟨u, he, h1, h2⟩ => by subst he; exact next u w'' h1 h2
        | halt x w' => simp only [relyUpon] at hup
      · rw [if_neg (by rw [hwant, hwt]; simp)]
        exact next undef w (hrefl w) hup

/-- a value to begin with -/
def Want.guess : Want R → Value
  | .val c => c
  | .that _ _ => undef

theorem guess_val (ks : List (Want R)) (r : Nat) (c : Value) (h : ks[r]? = some (Want.val c)) : (ks.map Want.guess)[r]? = some c := by
  simp [h, Want.guess]

theorem wpAny_rely_start {m g : Nat} {W : World} {ks : List (Want R)} {a : Act} {K : Act → World → Prop} (hrefl : ∀ x, R x x) (htr : ∀ x y z, R x y → R y z → R x z)
    (hsz : ops.size = m + g) (hsel : Region.noSelect ops = true) (hB : relyB ops m = true) (hback : backB ops m = true)
    (htail : g = 0 ∨ (Region.sinkB .any ops m = true ∧ Region.chainB .any ops m = true))
    (hall : relyAll P R ops W K 0 (ops.toList.take m) ks [] a)
    (hK : ∀ (a' : Act) (w' : World) (listed : Array Bool), K a' w' → listed.size = ops.size → (∀ i, i < ops.size → listed.getD i false = decide (i < m)) → wpAny P .any ops Q g listed a' w') :
    wpAny P .any ops Q ops.size (Array.replicate ops.size false) a W := by
  have hz : ∀ i, (Array.replicate ops.size false).getD i false = false := fun i => getD_replicate_false _ _
  have hlen : ks.length = m := by
    rw [relyAll_length _ _ _ _ _ hall]; simp; omega
  have h := wpAny_rely (P := P) (Q := Q) hrefl htr hsz hsel hB hback htail hall hK m (Array.replicate ops.size false) (ks.map Want.guess) W ?_ ?_ (by simpa using hlen) (guess_val ks)
    (fun r k v _ _ h => by rw [hz r] at h; cases h) (hrefl W)
  · rw [putL_none _ _ _ _ (fun i _ => hz i), ← hsz] at h
    exact h
  · unfold left
    rw [List.countP_eq_length.2 (fun i _ => by rw [hz i]; rfl)]
    simp
  · refine ⟨by simp, fun j oj _ h => ?_, fun t ht ht' => by simp [ht']⟩
    rw [hz j] at h; cases h

/-- **THE REGION**, no operation of which must come last -/
theorem wp_region_rely {id : Nat} {l : List Oper} {a : Act} {W : World} (R : World → World → Prop) (ks : List (Want R)) (hm : P.follows .mixedOrders = true) (hrefl : ∀ x, R x x) (htr : ∀ x y z, R x y → R y z → R x z)
    (hsel : Region.noSelect l.toArray = true) (hB : relyB l.toArray l.length = true) (hback : backB l.toArray l.length = true)
    (hall : relyAll P R l.toArray W.drew (fun a' w' => Q .normal a' w') 0 l ks [] a) : (Code.region id l.toArray true).wp P Q a W := by
  refine wp_region_any hm ?_
  refine wpAny_rely_start (P := P) (ops := l.toArray) (Q := Q) (m := l.length) (g := 0) (W := W.drew) (ks := ks) (K := fun a' w' => Q .normal a' w') hrefl htr (by simp) hsel hB hback (.inl rfl) (by simpa using hall) fun a' w' listed hk hs hL => ?_
  refine ⟨?_, hk⟩
  refine List.eq_nil_iff_forall_not_mem.2 fun i hi => ?_
  obtain ⟨hun, o, ho, _⟩ := mem_ready.1 hi
  have hlt := (Array.getElem?_eq_some_iff.1 ho).1
  have := hL i hlt
  rw [getD_both hun] at this
  simp at this hlt
  omega

/-- **THE REGION**, whose operations from the m-th on come last, one behind the other -/
theorem wp_region_rely_tail {id : Nat} {l : List Oper} {a : Act} {W : World} (R : World → World → Prop) (m : Nat) (ks : List (Want R)) (hm : P.follows .mixedOrders = true) (hrefl : ∀ x, R x x) (htr : ∀ x y z, R x y → R y z → R x z)
    (hlt : m ≤ l.length) (hsel : Region.noSelect l.toArray = true) (hB : relyB l.toArray m = true) (hback : backB l.toArray m = true)
    (hsink : Region.sinkB .any l.toArray m = true) (hchain : Region.chainB .any l.toArray m = true) (hseq : Region.seqB .any l.toArray (l.drop m).length m (headListed m (l.drop m).length) = true)
    (hall : relyAll P R l.toArray W.drew (fun a' w' => wpList P l.toArray Q (l.drop m) a' w') 0 (l.take m) ks [] a) : (Code.region id l.toArray true).wp P Q a W := by
  refine wp_region_any hm ?_
  have hsz : l.toArray.size = m + (l.drop m).length := by simp; omega
  refine wpAny_rely_start (P := P) (ops := l.toArray) (Q := Q) (m := m) (g := (l.drop m).length) (W := W.drew) (ks := ks) (K := fun a' w' => wpList P l.toArray Q (l.drop m) a' w') hrefl htr hsz hsel hB hback (.inr ⟨hsink, hchain⟩) (by simpa using hall) fun a' w' listed hk hs hL => ?_
  have e : listed = headListed m (l.drop m).length := by
    apply Array.ext
    · rw [hs, hsz]; simp [headListed]
    · intro i h1 h2
      have h3 := hL i (by omega)
      simp [h1] at h3
      simp [headListed, h3]
  rw [e]
  exact wpAny_of_seq (l.drop m) m _ a' w' (fun j => by simp [List.getElem?_drop]) hseq hk

/-- a world that has all that was there -/
def Grown (w w' : World) : Prop := Below w.heap.size w w'

theorem Grown.refl (w : World) : Grown w w := Below.refl _ _
theorem Grown.trans (x y z : World) (h : Grown x y) (k : Grown y z) : Grown x z := grow h k
theorem Grown.drew (w : World) : Grown w w.drew := (Below.refl _ _).drew

/-- nothing but numbers of the stream was drawn -/
def Drawn (w w' : World) : Prop := ∃ n, w' = w.drewN n

end
end Go.Proofs.Ytocmkmeikcejjaa
