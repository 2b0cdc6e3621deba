/- As Phase; and operations that the first writer waits for are told that nothing was written yet. -/
import Derived.Test.YtcdmokbamakomaaGreatPhase
namespace Go.Proofs.YtcdmokbamakomaaGreat
open Go.RowKit

/-- the first writer waits for these -/
def earlyB (ops : Array Oper) (ws es : List Nat) : Bool := match ws with
  | [] => true
  | c :: _ => es.all fun i => reachB ops 6 c i

section
variable {P : Program} {ops : Array Oper} {Q : Exit → Act → World → Prop} {R : World → World → Prop}

theorem early_zero {ws es : List Nat} {m i : Nat} {listed : Array Bool} (inv : HeadInv .any ops m listed) (hfo : followB ops ws = true) (hes : earlyB ops ws es = true) (hun : listed.getD i false = false) (he : es.contains i = true) : doneN ws listed = 0 := by
  cases ws with
  | nil => rfl
  | cons c cs =>
    have hpre := done_prefix inv hfo 0 c rfl
    have hr : reachB ops 6 c i = true := List.all_eq_true.1 hes i (by simpa using he)
    by_cases h0 : 0 < doneN (c :: cs) listed
    · rw [decide_eq_true h0] at hpre
      have := reach_closed inv 6 c i hr hpre
      rw [hun] at this
      cases this
    · omega

/-- what is asked of the i-th operation -/
def phaseReqE (P : Program) (R G : World → World → Prop) (Φ : Nat → World → Prop) (e : Bool) (ops : Array Oper) (o : Oper) (a : Act) (w : World) (φ : World → Value → Prop) : Option Nat → Prop
  | some p => Φ p w → phaseStep P (fun x y => R x y ∧ Φ (p + 1) y) ops o a w φ
  | none => (e = true → Φ 0 w) → phaseStep P G ops o a w φ

/-- the operations one by one -/
def phaseAllE (P : Program) (R G : World → World → Prop) (Φ : Nat → World → Prop) (ws es : List Nat) (ops : Array Oper) (W : World) (K : Act → World → Prop) : Nat → List Oper → List (Want R) → List (Nat × (World → Prop)) → Act → Prop
  | _, [], [], env, a => ∀ w', R W w' → Φ ws.length w' → factsAll w' env → K a w'
  | i, o :: os, k :: ks, env, a =>
    (∀ w', R W w' → factsAt ops i w' env → phaseReqE P R G Φ (es.contains i) ops o a w' k.pred (phaseOf ws i)) ∧
    (match k with
      | .val c => phaseAllE P R G Φ ws es ops W K (i + 1) os ks env (a.put o.dst c)
      | .that φ _ => ∀ v, phaseAllE P R G Φ ws es ops W K (i + 1) os ks ((i, fun w => φ w v) :: env) (a.put o.dst v))
  | _, _, _, _, _ => False

variable {G : World → World → Prop} {Φ : Nat → World → Prop} {ws es : List Nat}

theorem phaseAllE_length {W : World} {K : Act → World → Prop} : ∀ (os : List Oper) (ks : List (Want R)) (j : Nat) (env : List (Nat × (World → Prop))) (a : Act), phaseAllE P R G Φ ws es ops W K j os ks env a → ks.length = os.length
  | [], [], _, _, _, _ => rfl
  | [], _ :: _, _, _, _, h => by simp [phaseAllE] at h
  | _ :: _, [], _, _, _, h => by simp [phaseAllE] at h
  | o :: os, k :: ks, j, env, a, h => by
    have h2 := h.2
    cases k with
    | val c => simpa using phaseAllE_length os ks (j + 1) _ _ h2
    | that φ st => simpa using phaseAllE_length os ks (j + 1) _ _ (h2 undef)

theorem phaseAllE_at {W : World} {K : Act → World → Prop} {i : Nat} : ∀ (os : List Oper) (ks : List (Want R)) (vs : List Value) (j : Nat) (env : List (Nat × (World → Prop))) (a : Act) (o : Oper) (k : Want R),
    phaseAllE P R G Φ ws es ops W K j os ks env a → os[i]? = some o → ks[i]? = some k → vs.length = os.length → (∀ (r : Nat) (c : Value), ks[r]? = some (Want.val c) → vs[r]? = some c) →
    ∀ w', R W w' → factsAt ops (j + i) w' env → (∀ (r : Nat) (k' : Want R) (v : Value), r < i → ks[r]? = some k' → vs[r]? = some v → Region.waitsFor .any ops (j + i) (j + r) = true → k'.pred w' v) →
    phaseReqE P R G Φ (es.contains (j + i)) ops o (putL (fun q => decide (q < j + i)) os vs j a) w' k.pred (phaseOf ws (j + i)) := by
  induction i with
  | zero =>
    intro os ks vs j env a o k h ho hk hl hv w' hR hf hp
    match os, ks, ho, hk, h with
    | o' :: os, k' :: ks, ho, hk, h =>
      simp only [List.getElem?_cons_zero, Option.some.injEq] at ho hk
      subst ho hk
      rw [putL_none _ _ _ _ (fun q hq => by simp; omega)]
      exact h.1 w' hR hf
  | succ i ih =>
    intro os ks vs j env a o k h ho hk hl hv w' hR hf hp
    match os, ks, vs, ho, hk, h, hl, hv, hp with
    | o' :: os, k' :: ks, v' :: vs, ho, hk, h, hl, hv, hp =>
      simp only [List.getElem?_cons_succ] at ho hk
      have hv' : ∀ (r : Nat) (c : Value), ks[r]? = some (Want.val c) → vs[r]? = some c := fun r c hc => by simpa using hv (r + 1) c (by simpa using hc)
      have hp' : ∀ (r : Nat) (k' : Want R) (v : Value), r < i → ks[r]? = some k' → vs[r]? = some v → Region.waitsFor .any ops (j + 1 + i) (j + 1 + r) = true → k'.pred w' v := fun r k2 v hr h1 h2 h3 =>
        hp (r + 1) k2 v (by omega) (by simpa using h1) (by simpa using h2) (by rwa [show j + (i + 1) = j + 1 + i from by omega, show j + (r + 1) = j + 1 + r from by omega])
      have e1 : j + (i + 1) = j + 1 + i := by omega
      simp only [putL, show decide (j < j + (i + 1)) = true from by simp, if_true]
      rw [e1] at hf ⊢
      have h2 := h.2
      cases k' with
      | val c =>
        have : v' = c := by simpa using hv 0 c rfl
        subst this
        exact ih os ks vs (j + 1) env _ o k h2 ho hk (by simpa using hl) hv' w' hR hf hp'
      | that φ st =>
        refine ih os ks vs (j + 1) _ _ o k (h2 v') ho hk (by simpa using hl) hv' w' hR ⟨fun hwt => ?_, hf⟩ hp'
        exact hp 0 (.that φ st) v' (by omega) rfl rfl (by rwa [e1])

theorem phaseAllE_end {W : World} {K : Act → World → Prop} : ∀ (os : List Oper) (ks : List (Want R)) (vs : List Value) (j : Nat) (env : List (Nat × (World → Prop))) (a : Act),
    phaseAllE P R G Φ ws es ops W K j os ks env a → vs.length = os.length → ∀ w', R W w' → Φ ws.length w' → factsAll w' env → (∀ (r : Nat) (k : Want R) (v : Value), ks[r]? = some k → vs[r]? = some v → k.pred w' v) → K (putL (fun _ => true) os vs j a) w'
  | [], [], _, _, _, _, h, _, w', hR, hΦ, hf, _ => by simpa [putL] using h w' hR hΦ hf
  | [], _ :: _, _, _, _, _, h, _, _, _, _, _, _ => by simp [phaseAllE] at h
  | _ :: _, [], _, _, _, _, h, _, _, _, _, _, _ => by simp [phaseAllE] at h
  | _ :: _, _ :: _, [], _, _, _, _, hl, _, _, _, _, _ => by simp at hl
  | o :: os, k :: ks, v :: vs, j, env, a, h, hl, w', hR, hΦ, hf, hp => by
    have hp' : ∀ (r : Nat) (k : Want R) (v : Value), ks[r]? = some k → vs[r]? = some v → k.pred w' v := fun r k2 v2 h1 h2 => hp (r + 1) k2 v2 (by simpa using h1) (by simpa using h2)
    have h0 := hp 0 k v rfl rfl
    have h2 := h.2
    simp only [putL, if_true]
    cases k with
    | val c =>
      have : v = c := h0
      subst this
      exact phaseAllE_end os ks vs (j + 1) env _ h2 (by simpa using hl) w' hR hΦ hf hp'
    | that φ st => exact phaseAllE_end os ks vs (j + 1) _ _ (h2 v) (by simpa using hl) w' hR hΦ ⟨h0, hf⟩ hp'

theorem wpAny_phaseE {m : Nat} {W : World} {ks : List (Want R)} {a : Act} {K : Act → World → Prop} (htr : ∀ x y z, R x y → R y z → R x z) (hGR : ∀ x y, G x y → R x y) (hGΦ : ∀ x y p, G x y → Φ p x → Φ p y)
    (hsz : ops.size = m) (hsel : Region.noSelect ops = true) (hB : relyB ops m = true) (hback : backB ops m = true) (hfo : followB ops ws = true) (hwm : ws.all (· < m) = true) (hes : earlyB ops ws es = true)
    (hall : phaseAllE P R G Φ ws es ops W K 0 (ops.toList.take m) ks [] a)
    (hK : ∀ (a' : Act) (w' : World) (listed : Array Bool), K a' w' → listed.size = ops.size → (∀ i, i < ops.size → listed.getD i false = decide (i < m)) → wpAny P .any ops Q 0 listed a' w') :
    ∀ (f : Nat) (listed : Array Bool) (vs : List Value) (w : World), left m listed = f → HeadInv .any ops m listed → vs.length = m → (∀ (r : Nat) (c : Value), ks[r]? = some (Want.val c) → vs[r]? = some c) →
      (∀ (r : Nat) (k : Want R) (v : Value), ks[r]? = some k → vs[r]? = some v → listed.getD r false = true → k.pred w v) → R W w → Φ (doneN ws listed) w →
      wpAny P .any ops Q f listed (putL (fun k => listed.getD k false) (ops.toList.take m) vs 0 a) w := by
  have hlen : (ops.toList.take m).length = m := by simp; omega
  have hks : ks.length = m := by rw [phaseAllE_length _ _ _ _ _ hall, hlen]
  have hpre : ∀ r, r < m → (ops.toList.take m)[r]? = ops[r]? := fun r hr => by
    rw [List.getElem?_take_of_lt hr]; simp
  intro f
  induction f with
  | zero =>
    intro listed vs w hl inv hvl hvc hp hw hΦ
    have h1 := left_zero hl
    rw [putL_congr (L' := fun _ => true) _ _ _ _ (fun i _ hi => h1 i (by omega))]
    have hdone : doneN ws listed = ws.length := by
      unfold doneN
      rw [List.countP_eq_length]
      intro c hc
      exact h1 c (by simpa using List.all_eq_true.1 hwm c hc)
    rw [hdone] at hΦ
    refine hK _ _ listed (phaseAllE_end _ ks vs 0 [] a hall (by omega) w hw hΦ trivial fun r k v hk hv => hp r k v hk hv (h1 r ?_)) inv.size fun i hi => ?_
    · have := (List.getElem?_eq_some_iff.1 hk).1; omega
    · rw [h1 i (by omega)]; simp; omega
  | succ f ih =>
    intro listed vs w hl inv hvl hvc hp hw hΦ
    obtain ⟨i0, hi0, hu0, hb0⟩ := left_some m (by omega : left m listed ≠ 0)
    have hu0' : listed.getD i0 true = false := getD_in (by rw [inv.size]; omega) hu0
    refine ⟨fun h0 => ?_, fun i hi => ?_⟩
    · exfalso
      have h1 := List.all_eq_true.1 hback i0 (List.mem_range.2 hi0)
      have hlt : i0 < ops.size := by omega
      rw [Array.getElem?_eq_getElem hlt] at h1
      have h2 : i0 ∈ Region.ready .any ops listed := by
        rw [mem_ready]
        refine ⟨hu0', ops[i0], Array.getElem?_eq_getElem hlt, fun e he hb => ?_⟩
        have := Array.all_eq_true_iff_forall_mem.1 h1 e he
        simp [hb] at this
        exact hb0 _ this
      rw [h0] at h2
      cases h2
    · obtain ⟨hun, o, ho, hafter⟩ := mem_ready.1 hi
      have hin : i < m := by have := (Array.getElem?_eq_some_iff.1 ho).1; omega
      have hun' := getD_both hun
      have hisz : i < listed.size := by rw [inv.size]; omega
      have inv' := inv.set hi hin
      have hl' : left m (listed.setIfInBounds i true) = f := by have := left_set hisz hun' m hin; omega
      have hset : (listed.setIfInBounds i true).getD i false = true := by simp [hisz]
      have so := relyB_spec hB hin ho
      obtain ⟨k, hk⟩ : ∃ k, ks[i]? = some k := ⟨ks[i], List.getElem?_eq_getElem (by omega)⟩
      have hwaits : ∀ r, Region.waitsFor .any ops i r = true → listed.getD r false = true := fun r hr => by
        obtain ⟨oj, hoj, e, he, hb, hon⟩ := Region.waitsFor_spec hr
        have : oj = o := Option.some.inj (hoj.symm.trans ho)
        subst this
        have h3 := hafter e he hb
        rwa [hon] at h3
      have hst0 := phaseAllE_at (i := i) _ ks vs 0 [] a o k hall ((hpre i hin).trans ho) hk (by omega) hvc w hw trivial
        (fun r k' v _ h1 h2 h3 => hp r k' v h1 h2 (hwaits r (by simpa using h3)))
      rw [Nat.zero_add] at hst0
      -- what the operation does, whichever it is
      have hst : phaseStep P (fun x y => R x y ∧ Φ (doneN ws (listed.setIfInBounds i true)) y) ops o (putL (fun q => decide (q < i)) (ops.toList.take m) vs 0 a) w k.pred := by
        have weak : ∀ {E : World → World → Prop} {E' : World → World → Prop} (φ : World → Value → Prop) (x : World) (r : Result Next), (∀ y, E x y → E' x y) → relyUpon P E x φ r → relyUpon P E' x φ r := by
          intro E E' φ x r hE h
          cases r with
          | ok n w' =>
            cases n <;> simp only [relyUpon] at h ⊢
            case value u => exact ⟨hE _ h.1, h.2⟩
            case skip => exact ⟨hE _ h.1, h.2⟩
            case enter fn args => exact h.mono fun e w'' ⟨u, he, h1, h2⟩ => ⟨u, he, hE _ h1, h2⟩
          | halt x w' => simp only [relyUpon] at h
        cases hph : phaseOf ws i with
        | some p =>
          rw [hph] at hst0
          have hd := done_is inv hfo hi hph
          rw [hd] at hΦ
          rw [done_set inv hfo hi hin hisz hph]
          rcases hst0 hΦ with ⟨h1, h2⟩ | ⟨h1, h2, h3⟩
          · exact .inl ⟨h1, weak _ _ _ (fun y hy => hy) h2⟩
          · exact .inr ⟨h1, h2, h3⟩
        | none =>
          rw [hph] at hst0
          have hst0 := hst0 (fun he => by have e0 := early_zero inv hfo hes hun' he; rw [e0] at hΦ; exact hΦ)
          rw [done_same hph]
          rcases hst0 with ⟨h1, h2⟩ | ⟨h1, h2, h3⟩
          · exact .inl ⟨h1, weak _ _ _ (fun y hy => ⟨hGR _ _ hy, hGΦ _ _ _ hy hΦ⟩) h2⟩
          · exact .inr ⟨h1, ⟨hGR _ _ h2, hGΦ _ _ _ h2 hΦ⟩, h3⟩
      have hsame : ∀ t, t ∈ o.looksAt ops → (putL (fun k => listed.getD k false) (ops.toList.take m) vs 0 a).eval (.tmp t) = (putL (fun q => decide (q < i)) (ops.toList.take m) vs 0 a).eval (.tmp t) := fun t hlook => by
        refine putL_eval _ _ _ _ _ rfl rfl fun r o' ho' hd => ?_
        have hrm : r < m := by have := (List.getElem?_eq_some_iff.1 ho').1; omega
        obtain ⟨h1, h2⟩ := so.data r o' t hrm ((hpre r hrm).symm.trans ho') hd hlook
        simp only [Nat.zero_add]
        rw [hwaits r h2]; simp [h1]
      have heq : execOp (putL (fun k => listed.getD k false) (ops.toList.take m) vs 0 a).eval o = execOp (putL (fun q => decide (q < i)) (ops.toList.take m) vs 0 a).eval o := by
        refine execOp_congr o (fun cs b => Region.noSelect_spec hsel i o cs b ho) fun x hx => ?_
        cases x with
        | tmp t => exact hsame t (List.mem_append_left _ (List.mem_filterMap.2 ⟨.tmp t, by simpa using hx, rfl⟩))
        | _ => rfl
      have hwant := wanted_same (ops := ops) (o := o) (a := putL (fun k => listed.getD k false) (ops.toList.take m) vs 0 a) (a' := putL (fun q => decide (q < i)) (ops.toList.take m) vs 0 a) (by rw [putL_size, putL_size]) hsame
      -- what follows an operation's outcome
      have next : ∀ (u : Value) (w' : World), (R w w' ∧ Φ (doneN ws (listed.setIfInBounds i true)) w') → k.pred w' u → wpAny P .any ops Q f (listed.setIfInBounds i true) ((putL (fun k => listed.getD k false) (ops.toList.take m) vs 0 a).put o.dst u) w' := by
        intro u w' hRΦ hku
        have hR := hRΦ.1
        have hiv : i < vs.length := by omega
        have hfr : (putL (fun k => listed.getD k false) (ops.toList.take m) vs 0 a).put o.dst u = putL (fun k => (listed.setIfInBounds i true).getD k false) (ops.toList.take m) (vs.set i u) 0 a := by
          rw [putL_vals (L := fun k => listed.getD k false) (ops.toList.take m) vs (vs.set i u) 0 a (by simp) (fun r hr => ?_)]
          · rw [putL_set (L := fun k => listed.getD k false) (L' := fun k => (listed.setIfInBounds i true).getD k false) (i := i) (ops.toList.take m) (vs.set i u) 0 a o u ((hpre i hin).trans ho) (by simp [hiv]) ?_ ?_ ?_ ?_]
            · intro r s x y hx hy hrs d hd
              have hsm : s < m := by have := (List.getElem?_eq_some_iff.1 hy).1; omega
              exact (relyB_spec hB hsm ((hpre s hsm).symm.trans hy)).ap r x d hrs ((hpre r (by omega)).symm.trans hx) hd
            · simpa using hun'
            · simpa using hset
            · intro q hq; exact getD_set_ne false (by omega)
          · have : i ≠ r := fun e => by subst e; simp only [Nat.zero_add] at hr; rw [hun'] at hr; cases hr
            rw [List.getElem?_set_ne this]
        rw [hfr]
        refine ih _ (vs.set i u) w' hl' inv' (by simpa using hvl) (fun r c hc => ?_) (fun r k' v hk' hv hlr => ?_) (htr _ _ _ hw hR) hRΦ.2
        · by_cases e : i = r
          · subst e
            rw [hk] at hc
            cases hc
            have : u = c := hku
            subst this
            simp [hiv]
          · rw [List.getElem?_set_ne e]; exact hvc r c hc
        · by_cases e : i = r
          · subst e
            rw [hk] at hk'
            cases hk'
            simp only [List.getElem?_set_self hiv, Option.some.injEq] at hv
            subst hv
            exact hku
          · rw [List.getElem?_set_ne e] at hv
            rw [getD_set_ne false e] at hlr
            exact k'.keeps hR (hp r k' v hk' hv hlr)
      unfold wpOp
      simp only [ho]
      rcases hst with ⟨hwt, hup⟩ | ⟨hwt, hE, hup⟩
      · rw [if_pos (hwant.trans hwt)]
        refine .inl ?_
        unfold Oper.wp
        rw [heq]
        generalize (execOp (putL (fun q => decide (q < i)) (ops.toList.take m) vs 0 a).eval o).run P w = r at *
        cases r with
        | ok n w' =>
          cases n <;> simp only [relyUpon] at hup <;> simp only [Oper.upon]
          case value u => exact next u w' hup.1 hup.2
          case skip => exact next undef w' hup.1 hup.2
          case enter fn args => exact hup.mono fun e w'' ⟨u, he, h1, h2⟩ => by subst he; exact next u w'' h1 h2
        | halt x w' => simp only [relyUpon] at hup
      · rw [if_neg (by rw [hwant, hwt]; simp)]
        exact next undef w hE hup

/-- **THE REGION**: ws are the places of the operations that write, in their order -/
theorem wp_region_phaseE {id : Nat} {l : List Oper} {a : Act} {W : World} (R G : World → World → Prop) (Φ : Nat → World → Prop) (ws es : List Nat) (ks : List (Want R)) (hm : P.follows .mixedOrders = true) (hrefl : ∀ x, R x x) (htr : ∀ x y z, R x y → R y z → R x z)
    (hGR : ∀ x y, G x y → R x y) (hGΦ : ∀ x y p, G x y → Φ p x → Φ p y) (hΦ : Φ 0 W.drew)
    (hsel : Region.noSelect l.toArray = true) (hB : relyB l.toArray l.length = true) (hback : backB l.toArray l.length = true) (hfo : followB l.toArray ws = true) (hwm : ws.all (· < l.length) = true) (hes : earlyB l.toArray ws es = true)
    (hall : phaseAllE P R G Φ ws es l.toArray W.drew (fun a' w' => Q .normal a' w') 0 l ks [] a) : (Code.region id l.toArray true).wp P Q a W := by
  refine wp_region_any hm ?_
  have hz : ∀ i, (Array.replicate l.toArray.size false).getD i false = false := fun i => getD_replicate_false _ _
  have hlen : ks.length = l.length := phaseAllE_length _ _ _ _ _ hall
  have h := wpAny_phaseE (P := P) (ops := l.toArray) (Q := Q) (m := l.length) (W := W.drew) (ks := ks) (a := a) (K := fun a' w' => Q .normal a' w') htr hGR hGΦ (by simp) hsel hB hback hfo hwm hes (by simpa using hall) ?_ l.length (Array.replicate l.toArray.size false) (ks.map Want.guess) W.drew ?_ ?_ (by simpa using hlen) (guess_val ks)
    (fun r k v _ _ h => by rw [hz r] at h; cases h) (hrefl _) ?_
  · rw [putL_none _ _ _ _ (fun i _ => hz i)] at h
    simpa using h
  · intro a' w' listed hk hs hL
    refine ⟨?_, hk⟩
    refine List.eq_nil_iff_forall_not_mem.2 fun i hi => ?_
    obtain ⟨hun, o, ho, _⟩ := mem_ready.1 hi
    have hlt := (Array.getElem?_eq_some_iff.1 ho).1
    have := hL i hlt
    rw [getD_both hun] at this
    simp at this hlt
    omega
  · unfold left
    rw [List.countP_eq_length.2 (fun i _ => by rw [hz i]; rfl)]
    simp
  · refine ⟨by simp, fun j oj _ h => ?_, fun t ht ht' => by simp at ht'; omega⟩
    rw [hz j] at h; cases h
  · have : doneN ws (Array.replicate l.toArray.size false) = 0 := by
      unfold doneN
      rw [List.countP_eq_zero]
      intro c _
      rw [hz c]; simp
    rw [this]
    exact hΦ

end
end Go.Proofs.YtcdmokbamakomaaGreat
