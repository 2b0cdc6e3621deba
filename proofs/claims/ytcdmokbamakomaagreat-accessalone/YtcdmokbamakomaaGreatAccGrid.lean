/- A region that draws its order, with something that is known of the values of all those that ran so far (J): two of them make something each, and it is two things; one hands on what another made. As Rely besides. -/
import Derived.Test.YtcdmokbamakomaaGreatRely
import Derived.Test.YtcdmokbamakomaaGreatDropActs
import Derived.ArgAppend
import Derived.Test.YtcdmokbamakomaaGreatAccSolo
namespace Go.Proofs.YtcdmokbamakomaaGreat
open Go.RowKit

section
variable {P : Program} {ops : Array Oper} {Q : Exit → Act → World → Prop} {R : World → World → Prop} {J : (Nat → Option Value) → Prop} {ks0 : List (Want R)}

/-- the operations one by one; l: the values of those that ran -/
def relyAllX (P : Program) (R : World → World → Prop) (J : (Nat → Option Value) → Prop) (ks0 : List (Want R)) (ops : Array Oper) (W : World) (K : Act → World → Prop) : Nat → List Oper → List (Want R) → List (Nat × (World → Prop)) → List Value → Act → Prop
  | _, [], [], env, acc, a => ∀ w', R W w' → factsAll w' env → J (fun r => acc[r]?) → K a w'
  | i, o :: os, k :: ks, env, acc, a =>
    (∀ w' l, R W w' → factsAt ops i w' env → J l → (∀ r, Region.waitsFor .any ops i r = true → r < acc.length → l r = acc[r]?) → (∀ (r : Nat) (k' : Want R) (v : Value), ks0[r]? = some k' → l r = some v → k'.pred w' v) → relyStep P R ops o a w' (fun w'' u => k.pred w'' u ∧ J (upd l i (some u)))) ∧
    (match k with
      | .val c => relyAllX P R J ks0 ops W K (i + 1) os ks env (acc ++ [c]) (a.put o.dst c)
      | .that φ _ => ∀ v, relyAllX P R J ks0 ops W K (i + 1) os ks ((i, fun w => φ w v) :: env) (acc ++ [v]) (a.put o.dst v))
  | _, _, _, _, _, _ => False

theorem relyAllX_length {W : World} {K : Act → World → Prop} : ∀ (os : List Oper) (ks : List (Want R)) (j : Nat) (env : List (Nat × (World → Prop))) (acc : List Value) (a : Act), relyAllX P R J ks0 ops W K j os ks env acc a → ks.length = os.length
  | [], [], _, _, _, _, _ => rfl
  | [], _ :: _, _, _, _, _, h => by simp [relyAllX] at h
  | _ :: _, [], _, _, _, _, h => by simp [relyAllX] at h
  | o :: os, k :: ks, j, env, acc, a, h => by
    have h2 := h.2
    cases k with
    | val c => simpa using relyAllX_length os ks (j + 1) _ _ _ h2
    | that φ st => simpa using relyAllX_length os ks (j + 1) _ _ _ (h2 undef)

theorem relyAllX_at {W : World} {K : Act → World → Prop} {i : Nat} : ∀ (os : List Oper) (ks : List (Want R)) (vs : List Value) (j : Nat) (env : List (Nat × (World → Prop))) (acc : List Value) (a : Act) (o : Oper) (k : Want R),
    relyAllX P R J ks0 ops W K j os ks env acc a → os[i]? = some o → ks[i]? = some k → vs.length = os.length → (∀ (r : Nat) (c : Value), ks[r]? = some (Want.val c) → vs[r]? = some c) →
    ∀ w', R W w' → factsAt ops (j + i) w' env → (∀ (r : Nat) (k' : Want R) (v : Value), r < i → ks[r]? = some k' → vs[r]? = some v → Region.waitsFor .any ops (j + i) (j + r) = true → k'.pred w' v) →
    ∀ l, acc.length = j → J l → (∀ r, Region.waitsFor .any ops (j + i) r = true → r < j + i → l r = (acc ++ vs)[r]?) → (∀ (r : Nat) (k' : Want R) (v : Value), ks0[r]? = some k' → l r = some v → k'.pred w' v) →
    relyStep P R ops o (putL (fun q => decide (q < j + i)) os vs j a) w' (fun w'' u => k.pred w'' u ∧ J (upd l (j + i) (some u))) := by
  induction i with
  | zero =>
    intro os ks vs j env acc a o k h ho hk hl hv w' hR hf hp l hal hJ hacc hpr
    match os, ks, ho, hk, h with
    | o' :: os, k' :: ks, ho, hk, h =>
      simp only [List.getElem?_cons_zero, Option.some.injEq] at ho hk
      subst ho hk
      rw [putL_none _ _ _ _ (fun q hq => by simp; omega)]
      exact h.1 w' l hR hf hJ (fun r hr hlt => by rw [hacc r hr (by omega), List.getElem?_append_left hlt]) hpr
  | succ i ih =>
    intro os ks vs j env acc a o k h ho hk hl hv w' hR hf hp l hal hJ hacc hpr
    match os, ks, vs, ho, hk, h, hl, hv, hp with
    | o' :: os, k' :: ks, v' :: vs, ho, hk, h, hl, hv, hp =>
      simp only [List.getElem?_cons_succ] at ho hk
      have hv' : ∀ (r : Nat) (c : Value), ks[r]? = some (Want.val c) → vs[r]? = some c := fun r c hc => by simpa using hv (r + 1) c (by simpa using hc)
      have hp' : ∀ (r : Nat) (k' : Want R) (v : Value), r < i → ks[r]? = some k' → vs[r]? = some v → Region.waitsFor .any ops (j + 1 + i) (j + 1 + r) = true → k'.pred w' v := fun r k2 v hr h1 h2 h3 =>
        hp (r + 1) k2 v (by omega) (by simpa using h1) (by simpa using h2) (by rwa [show j + (i + 1) = j + 1 + i from by omega, show j + (r + 1) = j + 1 + r from by omega])
      have e1 : j + (i + 1) = j + 1 + i := by omega
      simp only [putL, show decide (j < j + (i + 1)) = true from by simp, if_true]
      rw [e1] at hf hacc ⊢
      have hacc' : ∀ r, Region.waitsFor .any ops (j + 1 + i) r = true → r < j + 1 + i → l r = (acc ++ [v'] ++ vs)[r]? := fun r h1 h2 => by rw [hacc r h1 h2]; simp
      have hal' : (acc ++ [v']).length = j + 1 := by simp [hal]
      have h2 := h.2
      cases k' with
      | val c =>
        have : v' = c := by simpa using hv 0 c rfl
        subst this
        exact ih os ks vs (j + 1) env _ _ o k h2 ho hk (by simpa using hl) hv' w' hR hf hp' l hal' hJ hacc' hpr
      | that φ st =>
        refine ih os ks vs (j + 1) _ _ _ o k (h2 v') ho hk (by simpa using hl) hv' w' hR ⟨fun hwt => ?_, hf⟩ hp' l hal' hJ hacc' hpr
        exact hp 0 (.that φ st) v' (by omega) rfl rfl (by rwa [e1])

theorem relyAllX_end {W : World} {K : Act → World → Prop} : ∀ (os : List Oper) (ks : List (Want R)) (vs : List Value) (j : Nat) (env : List (Nat × (World → Prop))) (acc : List Value) (a : Act),
    relyAllX P R J ks0 ops W K j os ks env acc a → vs.length = os.length → ∀ w', R W w' → factsAll w' env → (∀ (r : Nat) (k : Want R) (v : Value), ks[r]? = some k → vs[r]? = some v → k.pred w' v) → J (fun r => (acc ++ vs)[r]?) → K (putL (fun _ => true) os vs j a) w'
  | [], [], [], _, _, _, _, h, _, w', hR, hf, _, hF => by simpa [putL] using h w' hR hf (by simpa using hF)
  | [], [], _ :: _, _, _, _, _, _, hl, _, _, _, _, _ => by simp at hl
  | [], _ :: _, _, _, _, _, _, h, _, _, _, _, _, _ => by simp [relyAllX] at h
  | _ :: _, [], _, _, _, _, _, h, _, _, _, _, _, _ => by simp [relyAllX] at h
  | _ :: _, _ :: _, [], _, _, _, _, _, hl, _, _, _, _, _ => by simp at hl
  | o :: os, k :: ks, v :: vs, j, env, acc, a, h, hl, w', hR, hf, hp, hF => by
    have hp' : ∀ (r : Nat) (k : Want R) (v : Value), ks[r]? = some k → vs[r]? = some v → k.pred w' v := fun r k2 v2 h1 h2 => hp (r + 1) k2 v2 (by simpa using h1) (by simpa using h2)
    have h0 := hp 0 k v rfl rfl
    have h2 := h.2
    have hF' : J (fun r => (acc ++ [v] ++ vs)[r]?) := by simpa using hF
    simp only [putL, if_true]
    cases k with
    | val c =>
      have : v = c := h0
      subst this
      exact relyAllX_end os ks vs (j + 1) env _ _ h2 (by simpa using hl) w' hR hf hp' hF'
    | that φ st => exact relyAllX_end os ks vs (j + 1) _ _ _ (h2 v) (by simpa using hl) w' hR ⟨h0, hf⟩ hp' hF'

theorem wpAny_relyX {m g : Nat} {W : World} {ks : List (Want R)} {a : Act} {K : Act → World → Prop} (hrefl : ∀ x, R x x) (htr : ∀ x y z, R x y → R y z → R x z)
    (hsz : ops.size = m + g) (hsel : Region.noSelect ops = true) (hB : relyB ops m = true) (hback : backB ops m = true)
    (htail : g = 0 ∨ (Region.sinkB .any ops m = true ∧ Region.chainB .any ops m = true))
    (hall : relyAllX P R J ks ops W K 0 (ops.toList.take m) ks [] [] a)
    (hK : ∀ (a' : Act) (w' : World) (listed : Array Bool), K a' w' → listed.size = ops.size → (∀ i, i < ops.size → listed.getD i false = decide (i < m)) → wpAny P .any ops Q g listed a' w') :
    ∀ (f : Nat) (listed : Array Bool) (vs : List Value) (w : World), left m listed = f → HeadInv .any ops m listed → vs.length = m → (∀ (r : Nat) (c : Value), ks[r]? = some (Want.val c) → vs[r]? = some c) →
      (∀ (r : Nat) (k : Want R) (v : Value), ks[r]? = some k → vs[r]? = some v → listed.getD r false = true → k.pred w v) → J (fun r => if listed.getD r false = true then vs[r]? else none) → R W w →
      wpAny P .any ops Q (f + g) listed (putL (fun k => listed.getD k false) (ops.toList.take m) vs 0 a) w := by
  have hlen : (ops.toList.take m).length = m := by simp; omega
  have hks : ks.length = m := by rw [relyAllX_length _ _ _ _ _ _ hall, hlen]
  have hpre : ∀ r, r < m → (ops.toList.take m)[r]? = ops[r]? := fun r hr => by
    rw [List.getElem?_take_of_lt hr]; simp
  intro f
  induction f with
  | zero =>
    intro listed vs w hl inv hvl hvc hp hg hw
    have h1 := left_zero hl
    rw [Nat.zero_add, putL_congr (L' := fun _ => true) _ _ _ _ (fun i _ hi => h1 i (by omega))]
    have e : (fun r => if listed.getD r false = true then vs[r]? else none) = fun r => ([] ++ vs)[r]? := funext fun r => by
      by_cases hr : r < m
      · rw [if_pos (h1 r hr)]; rfl
      · simp [show vs[r]? = none from List.getElem?_eq_none (by omega)]
    have hge := hg
    rw [e] at hge
    refine hK _ _ listed (relyAllX_end _ ks vs 0 [] [] a hall (by omega) w hw trivial (fun r k v hk hv => hp r k v hk hv (h1 r (by have := (List.getElem?_eq_some_iff.1 hk).1; omega))) hge) inv.size fun i hi => ?_
    · rcases Nat.lt_or_ge i m with h2 | h2
      · rw [h1 i h2]; simp [h2]
      · rw [getD_both (inv.tail i h2 hi)]; simp; omega
  | succ f ih =>
    intro listed vs w hl inv hvl hvc hp hg hw
    rw [show f + 1 + g = (f + g) + 1 from by omega]
    obtain ⟨i0, hi0, hu0, hb0⟩ := left_some m (by omega : left m listed ≠ 0)
    have hu0' : listed.getD i0 true = false := getD_in (by rw [inv.size]; omega) hu0
    refine ⟨fun h0 => ?_, fun i hi => ?_⟩
    · exfalso
      have h1 := List.all_eq_true.1 hback i0 (List.mem_range.2 hi0)
      have hlt : i0 < ops.size := by omega
      rw [Array.getElem?_eq_getElem hlt] at h1
      have h2 : i0 ∈ Region.ready .any ops listed := by
        rw [mem_ready]
        refine ⟨hu0', ops[i0], Array.getElem?_eq_getElem hlt, fun e he hb => ?_⟩
        have := Array.all_eq_true_iff_forall_mem.1 h1 e he
        simp [hb] at this
        exact hb0 _ this
      rw [h0] at h2
      cases h2
    · obtain ⟨hun, o, ho, hafter⟩ := mem_ready.1 hi
      have hin : i < m := by
        rcases Nat.lt_or_ge i m with h | h
        · exact h
        · rcases htail with h0 | ⟨hsink, hchain⟩
          · have := (Array.getElem?_eq_some_iff.1 ho).1; omega
          · have hlt := (Array.getElem?_eq_some_iff.1 ho).1
            exact absurd hi (tail_waits hsink hchain (by omega) inv _ i0 rfl hi0 hu0' i h)
      have hun' := getD_both hun
      have hisz : i < listed.size := by rw [inv.size]; omega
      have inv' := inv.set hi hin
      have hl' : left m (listed.setIfInBounds i true) = f := by have := left_set hisz hun' m hin; omega
      have hset : (listed.setIfInBounds i true).getD i false = true := by simp [hisz]
      have so := relyB_spec hB hin ho
      obtain ⟨k, hk⟩ : ∃ k, ks[i]? = some k := ⟨ks[i], List.getElem?_eq_getElem (by omega)⟩
      have hwaits : ∀ r, Region.waitsFor .any ops i r = true → listed.getD r false = true := fun r hr => by
        obtain ⟨oj, hoj, e, he, hb, hon⟩ := Region.waitsFor_spec hr
        have : oj = o := Option.some.inj (hoj.symm.trans ho)
        subst this
        have h3 := hafter e he hb
        rwa [hon] at h3
      have hst := relyAllX_at (i := i) _ ks vs 0 [] [] a o k hall ((hpre i hin).trans ho) hk (by omega) hvc w hw trivial
        (fun r k' v _ h1 h2 h3 => hp r k' v h1 h2 (hwaits r (by simpa using h3))) (fun r => if listed.getD r false = true then vs[r]? else none) rfl hg
        (fun r h1 _ => by rw [if_pos (hwaits r (by simpa using h1))]; rfl) (fun r k' v h1 h2 => by
          by_cases hr : listed.getD r false = true
          · rw [if_pos hr] at h2; exact hp r k' v h1 h2 hr
          · rw [if_neg hr] at h2; cases h2)
      have hsame : ∀ t, t ∈ o.looksAt ops → (putL (fun k => listed.getD k false) (ops.toList.take m) vs 0 a).eval (.tmp t) = (putL (fun q => decide (q < 0 + i)) (ops.toList.take m) vs 0 a).eval (.tmp t) := fun t hlook => by
        refine putL_eval _ _ _ _ _ rfl rfl fun r o' ho' hd => ?_
        have hrm : r < m := by have := (List.getElem?_eq_some_iff.1 ho').1; omega
        obtain ⟨h1, h2⟩ := so.data r o' t hrm ((hpre r hrm).symm.trans ho') hd hlook
        simp only [Nat.zero_add]
        rw [hwaits r h2]; simp [h1]
      have heq : execOp (putL (fun k => listed.getD k false) (ops.toList.take m) vs 0 a).eval o = execOp (putL (fun q => decide (q < 0 + i)) (ops.toList.take m) vs 0 a).eval o := by
        refine execOp_congr o (fun cs b => Region.noSelect_spec hsel i o cs b ho) fun x hx => ?_
        cases x with
        | tmp t => exact hsame t (List.mem_append_left _ (List.mem_filterMap.2 ⟨.tmp t, by simpa using hx, rfl⟩))
        | _ => rfl
      have hwant := wanted_same (ops := ops) (o := o) (a := putL (fun k => listed.getD k false) (ops.toList.take m) vs 0 a) (a' := putL (fun q => decide (q < 0 + i)) (ops.toList.take m) vs 0 a) (by rw [putL_size, putL_size]) hsame
      -- what follows an operation's outcome
      have next : ∀ (u : Value) (w' : World), R w w' → k.pred w' u ∧ J (upd (fun r => if listed.getD r false = true then vs[r]? else none) (0 + i) (some u)) → wpAny P .any ops Q (f + g) (listed.setIfInBounds i true) ((putL (fun k => listed.getD k false) (ops.toList.take m) vs 0 a).put o.dst u) w' := by
        intro u w' hR hku2
        obtain ⟨hku, hXu⟩ := hku2
        rw [Nat.zero_add] at hXu
        have hiv : i < vs.length := by omega
        have hfr : (putL (fun k => listed.getD k false) (ops.toList.take m) vs 0 a).put o.dst u = putL (fun k => (listed.setIfInBounds i true).getD k false) (ops.toList.take m) (vs.set i u) 0 a := by
          rw [putL_vals (L := fun k => listed.getD k false) (ops.toList.take m) vs (vs.set i u) 0 a (by simp) (fun r hr => ?_)]
          · rw [putL_set (L := fun k => listed.getD k false) (L' := fun k => (listed.setIfInBounds i true).getD k false) (i := i) (ops.toList.take m) (vs.set i u) 0 a o u ((hpre i hin).trans ho) (by simp [hiv]) ?_ ?_ ?_ ?_]
            · intro r s x y hx hy hrs d hd
              have hsm : s < m := by have := (List.getElem?_eq_some_iff.1 hy).1; omega
              exact (relyB_spec hB hsm ((hpre s hsm).symm.trans hy)).ap r x d hrs ((hpre r (by omega)).symm.trans hx) hd
            · simpa using hun'
            · simpa using hset
            · intro q hq; exact getD_set_ne false (by omega)
          · have : i ≠ r := fun e => by subst e; simp only [Nat.zero_add] at hr; rw [hun'] at hr; cases hr
            rw [List.getElem?_set_ne this]
        rw [hfr]
        refine ih _ (vs.set i u) w' hl' inv' (by simpa using hvl) (fun r c hc => ?_) (fun r k' v hk' hv hlr => ?_) ?_ (htr _ _ _ hw hR)
        · by_cases e : i = r
          · subst e
            rw [hk] at hc
            cases hc
            have : u = c := hku
            subst this
            simp [hiv]
          · rw [List.getElem?_set_ne e]; exact hvc r c hc
        · by_cases e : i = r
          · subst e
            rw [hk] at hk'
            cases hk'
            simp only [List.getElem?_set_self hiv, Option.some.injEq] at hv
            subst hv
            exact hku
          · rw [List.getElem?_set_ne e] at hv
            rw [getD_set_ne false e] at hlr
            exact k'.keeps hR (hp r k' v hk' hv hlr)
        · have e : (fun r => if (listed.setIfInBounds i true).getD r false = true then (vs.set i u)[r]? else none) = upd (fun r => if listed.getD r false = true then vs[r]? else none) i (some u) := funext fun r => by
            by_cases e : r = i
            · subst e; rw [if_pos hset, upd_same, List.getElem?_set_self hiv]
            · rw [upd_other _ _ _ _ e, getD_set_ne false (fun h => e h.symm), List.getElem?_set_ne (fun h => e h.symm)]
          rw [e]; exact hXu
      unfold wpOp
      simp only [ho]
      rcases hst with ⟨hwt, hup⟩ | ⟨hwt, hup⟩
      · rw [if_pos (hwant.trans hwt)]
        refine .inl ?_
        unfold Oper.wp
        rw [heq]
        generalize (execOp (putL (fun q => decide (q < 0 + i)) (ops.toList.take m) vs 0 a).eval o).run P w = r at *
        cases r with
        | ok n w' =>
          cases n <;> simp only [relyUpon] at hup <;> simp only [Oper.upon]
          case value u => exact next u w' hup.1 hup.2
          case skip => exact next undef w' hup.1 hup.2
          case enter fn args => exact hup.mono fun e w'' ⟨u, he, h1, h2⟩ => by subst he; exact next u w'' h1 h2
        | halt x w' => simp only [relyUpon] at hup
      · rw [if_neg (by rw [hwant, hwt]; simp)]
        exact next undef w (hrefl w) hup

theorem wpAny_relyX_start {m g : Nat} {W : World} {ks : List (Want R)} {a : Act} {K : Act → World → Prop} (hrefl : ∀ x, R x x) (htr : ∀ x y z, R x y → R y z → R x z)
    (hsz : ops.size = m + g) (hsel : Region.noSelect ops = true) (hB : relyB ops m = true) (hback : backB ops m = true)
    (htail : g = 0 ∨ (Region.sinkB .any ops m = true ∧ Region.chainB .any ops m = true))
    (hall : relyAllX P R J ks ops W K 0 (ops.toList.take m) ks [] [] a) (hJ0 : J (fun _ => none))
    (hK : ∀ (a' : Act) (w' : World) (listed : Array Bool), K a' w' → listed.size = ops.size → (∀ i, i < ops.size → listed.getD i false = decide (i < m)) → wpAny P .any ops Q g listed a' w') :
    wpAny P .any ops Q ops.size (Array.replicate ops.size false) a W := by
  have hz : ∀ i, (Array.replicate ops.size false).getD i false = false := fun i => getD_replicate_false _ _
  have hlen : ks.length = m := by
    rw [relyAllX_length _ _ _ _ _ _ hall]; simp; omega
  have h := wpAny_relyX (P := P) (Q := Q) hrefl htr hsz hsel hB hback htail hall hK m (Array.replicate ops.size false) (ks.map Want.guess) W ?_ ?_ (by simpa using hlen) (guess_val ks)
    (fun r k v _ _ h => by rw [hz r] at h; cases h) (by simp only [hz]; exact hJ0) (hrefl W)
  · rw [putL_none _ _ _ _ (fun i _ => hz i), ← hsz] at h
    exact h
  · unfold left
    rw [List.countP_eq_length.2 (fun i _ => by rw [hz i]; rfl)]
    simp
  · refine ⟨by simp, fun j oj _ h => ?_, fun t ht ht' => by simp [ht']⟩
    rw [hz j] at h; cases h

/-- the same, whose last operations come one behind the other -/
theorem wp_region_relyX_tail {id : Nat} {l : List Oper} {a : Act} {W : World} (R : World → World → Prop) (J : (Nat → Option Value) → Prop) (m : Nat) (ks : List (Want R)) (hm : P.follows .mixedOrders = true) (hrefl : ∀ x, R x x) (htr : ∀ x y z, R x y → R y z → R x z)
    (hlt : m ≤ l.length) (hsel : Region.noSelect l.toArray = true) (hB : relyB l.toArray m = true) (hback : backB l.toArray m = true)
    (hsink : Region.sinkB .any l.toArray m = true) (hchain : Region.chainB .any l.toArray m = true) (hseq : Region.seqB .any l.toArray (l.drop m).length m (headListed m (l.drop m).length) = true)
    (hJ0 : J (fun _ => none))
    (hall : relyAllX P R J ks l.toArray W.drew (fun a' w' => wpList P l.toArray Q (l.drop m) a' w') 0 (l.take m) ks [] [] a) : (Code.region id l.toArray true).wp P Q a W := by
  refine wp_region_any hm ?_
  have hsz : l.toArray.size = m + (l.drop m).length := by simp; omega
  refine wpAny_relyX_start (P := P) (ops := l.toArray) (Q := Q) (m := m) (g := (l.drop m).length) (W := W.drew) (ks := ks) (K := fun a' w' => wpList P l.toArray Q (l.drop m) a' w') hrefl htr hsz hsel hB hback (.inr ⟨hsink, hchain⟩) (by simpa using hall) hJ0 fun a' w' listed hk hs hL => ?_
  have e : listed = headListed m (l.drop m).length := by
    apply Array.ext
    · rw [hs, hsz]; simp [headListed]
    · intro i h1 h2
      have h3 := hL i (by omega)
      simp [h1] at h3
      simp [headListed, h3]
  rw [e]
  exact wpAny_of_seq (l.drop m) m _ a' w' (fun j => by simp [List.getElem?_drop]) hseq hk

end

end Go.Proofs.YtcdmokbamakomaaGreat

/- Slices that a function makes itself, of values of one cell each: what append comes to. -/
namespace Go.Proofs.YtcdmokbamakomaaGreat
open Go.RowKit

/-- a slice of the values l, with so much room, lies in a block -/
structure Rw (w : World) (T : TypeId) (b cap : Nat) (l : List Value) : Prop where
  ex : ∃ c, w.heap[b]? = some (.cells c T (0, 0)) ∧ cap ≤ c.size ∧ ∀ (i : Nat) (x : Value), l[i]? = some x → c[i]? = some x
  le : l.length ≤ cap

namespace Rw
variable {w w' : World} {T T' : TypeId} {b b' cap cap' : Nat} {l l' : List Value}
theorem lt (h : Rw w T b cap l) : b < w.heap.size := by obtain ⟨c, k, _⟩ := h.ex; exact blk_lt k
theorem cell (h : Rw w T b cap l) {i : Nat} {x : Value} (hx : l[i]? = some x) : w.cell? ⟨b, i, none⟩ = some x := by
  obtain ⟨c, k, _, k2⟩ := h.ex; exact blk_cell k (k2 i x hx)
theorem of_block (h : Rw w T b cap l) (e : w'.heap[b]? = w.heap[b]?) : Rw w' T b cap l := ⟨h.ex.imp fun _ k => ⟨e.trans k.1, k.2⟩, h.le⟩
theorem grown (h : Rw w T b cap l) (g : Below w.heap.size w w') : Rw w' T b cap l := h.of_block (g.block _ h.lt)
theorem only {S : Nat → Prop} (h : Rw w T b cap l) (o : Only S w w') (hs : ¬ S b) : Rw w' T b cap l := h.of_block (o.block _ h.lt hs)
/-- rows of two kinds lie in two blocks -/
theorem ne (h : Rw w T b cap l) (h' : Rw w T' b' cap' l') (e : T ≠ T') : b ≠ b' := fun e' => by
  subst e'
  obtain ⟨c, k, _⟩ := h.ex
  obtain ⟨c', k', _⟩ := h'.ex
  rw [k] at k'
  cases k'
  exact e rfl
end Rw

theorem Grown.of {w w' : World} (h : w.grownBy w' none) : Grown w w' := ⟨h.os, h.tape, h.output, h.size, fun k hk => h.block k hk (by simp)⟩

theorem add_lit (b off j : Nat) : (⟨b, off, none⟩ : Addr).add j = ⟨b, off + j, none⟩ := by unfold Addr.add; split <;> simp_all

/-- an append of one value -/
theorem Rw.app {w : World} {T S : TypeId} {b cap bytes : Nat} {l : List Value} {z : Value} (hu : Tryz.prog.underlying S = some (.slice T)) (hi0 : (Tryz.prog.info? T).map (fun i => (i.zero, i.size, i.bytes)) = some (some z, 1, bytes)) (hz : z.cells.size = 1) (hby : bytes ≤ 24)
    (h : Rw w T b cap l) (g : Nat) (x : Value) (hx : x.oneCell' = true) (hg : w.cell? ⟨g, 0, none⟩ = some x) (hl : l.length ≤ 1000) (ty : TypeId) :
    ∃ b' cap' w', (Builtin.append_ #[S, S] ty #[.slice (some ⟨b, 0, none⟩) l.length cap, .slice (some ⟨g, 0, none⟩) 1 1]).run Tryz.prog w = .ok (.slice (some ⟨b', 0, none⟩) (l.length + 1) cap') w' ∧ Rw w' T b' cap' (l ++ [x]) ∧ Only (fun k => k = b) w w' ∧ ((b' = b ∧ cap' = cap ∧ Rw w' T b cap l) ∨ (w.heap.size ≤ b' ∧ Grown w w')) := by
  obtain ⟨i0, hi, hz0, hz1, hz2⟩ := info_parts hi0
  obtain ⟨c, k, k1, k2⟩ := h.ex
  have hle := h.le
  have hnews : ∀ j u, [x][j]? = some u → w.cell? ((⟨g, 0, none⟩ : Addr).add j) = some u := fun j u hu => by
    cases j with
    | zero => simp at hu; subst hu; rw [add_lit]; exact hg
    | succ j => simp at hu
  by_cases hr : l.length + 1 ≤ cap
  · have hlt : l.length < c.size := by omega
    have hcell : w.cell? ⟨b, l.length, none⟩ = some (c[l.length]) := blk_cell k (Array.getElem?_eq_getElem hlt)
    have hrun := run_append_room_cells (P := Tryz.prog) w S ty T i0 hu hi b 0 l.length cap ⟨g, 0, none⟩ 1 1 [x] (by simp [hz1]) hnews (by simpa using hx) hr
      (fun j hj => by
        have : j = 0 := by simpa using hj
        subst this; rw [hz1, Nat.mul_one, Nat.add_zero, Nat.zero_add, hcell]; rfl)
      (fun j hj => blk_frozen k _)
    rw [hz1, Nat.mul_one, Nat.zero_add] at hrun
    have hs : w.setCells b l.length [x] = w.setCell ⟨b, l.length, none⟩ x := by simp [World.setCells]
    rw [hs] at hrun
    refine ⟨b, cap, _, hrun, ?_, ?_, Or.inl ⟨rfl, rfl, ?_⟩⟩
    · refine ⟨⟨c.setIfInBounds l.length x, blk_setCell _ _ _ _ _ _ k, by simpa using k1, fun i y hy => ?_⟩, by simpa using hr⟩
      by_cases hil : i < l.length
      · rw [List.getElem?_append_left hil] at hy
        rw [Array.getElem?_setIfInBounds_ne (by omega)]; exact k2 i y hy
      · have hi2 : i < (l ++ [x]).length := (List.getElem?_eq_some_iff.1 hy).1
        simp at hi2
        obtain rfl : i = l.length := by omega
        simp at hy
        subst hy
        rw [Array.getElem?_setIfInBounds_self_of_lt hlt]
    · exact Only.setCell (a := ⟨b, l.length, none⟩) (Only.refl (fun k => k = b) w) (fun _ => rfl) x
    · refine ⟨⟨c.setIfInBounds l.length x, blk_setCell _ _ _ _ _ _ k, by simpa using k1, fun i y hy => ?_⟩, hle⟩
      have hil : i < l.length := (List.getElem?_eq_some_iff.1 hy).1
      rw [Array.getElem?_setIfInBounds_ne (by omega)]; exact k2 i y hy
  · obtain ⟨v', w', hrun, ho, hgr⟩ := run_append_arg_grows (P := Tryz.prog) w S ty T i0 z 1 bytes hu hi hz0 hz1 hz2 hz (by decide) ⟨b, 0, none⟩ l.length cap l (by simp)
      (fun j u hu => by rw [add_lit, Nat.zero_add]; exact h.cell hu)
      ⟨g, 0, none⟩ 1 1 [x] (by simp) hnews (by omega) (by unfold maxLen; omega) (Nat.le_trans (Nat.mul_le_mul_left _ hby) (by omega))
    rcases ho.2 with ⟨_, h2⟩ | ⟨g', cap', cur, h', hb, hg', hcap, hmax, hsz, htake⟩
    · omega
    · subst h'
      refine ⟨g', cap', w', hrun, ⟨⟨cur, hg', by omega, fun i u hu => ?_⟩, by simpa using hcap⟩, Only.ofGrown (Grown.of hgr), Or.inr ⟨hb, Grown.of hgr⟩⟩
      have e := congrArg (fun q => q[i]?) htake
      have hlt : i < l.length + 1 := by have := lt_of_some hu; simpa using this
      simp only [Nat.mul_one] at e
      rw [List.getElem?_take_of_lt hlt, hu] at e
      simpa using e

theorem Tryz.infoR35 : (Tryz.prog.info? 35).map (fun i => (i.zero, i.size, i.bytes)) = some (some (.int .u64 0), 1, 8) := by kernel_rfl
end Go.Proofs.YtcdmokbamakomaaGreat

/- Objects' handles in a row, and their words in a row of rows: both grow beside each other. -/
namespace Go.Proofs.YtcdmokbamakomaaGreat
open Go.RowKit

/-- an object whose handle is in the row, and where its words lie -/
structure Ob where
  o : Ox
  b : Nat
def Ob.h (r : Ob) : Value := .int .u64 (packH r.o.x r.o.g)
def Ob.w (r : Ob) : Value := .slice (some ⟨r.b, 0, none⟩) r.o.Z r.o.Z

theorem Rw.fresh (w : World) (T : TypeId) : Rw (w.alloc (.cells #[] T)) T w.heap.size 0 [] := ⟨⟨#[], Go.Deep.blk_alloc_new _ _, by simp, fun i x h => by simp at h⟩, by simp⟩
theorem Rw.ne_row {w : World} {T T' : TypeId} {b b' cap n : Nat} {l : List Value} {f : Nat → Value} (h : Rw w T b cap l) (h' : w.rowIs b' T' n f) (e : T ≠ T') : b' ≠ b := fun e' => by
  subst e'
  obtain ⟨c, k, _⟩ := h.ex
  obtain ⟨c', k', _⟩ := h'
  rw [k] at k'
  cases k'
  exact e rfl

/-- two rows; what is laid behind each -/
structure Duo where
  b : Nat → Nat
  c : Nat → Nat
  l : Nat → List Value
  hv : Int
  Z : Nat
  base : Nat

def duoT : Nat → TypeId
  | 0 => 35
  | _ => 22

namespace Duo
def has (F : Duo) (k : Nat) : Prop := ∃ a, a < 2 ∧ k = F.b a

/-- what may be laid: the handle; a row of noughts that was made -/
def ph (F : Duo) : Nat → World → Value → Prop
  | 0, _, x => x = .int .u64 F.hv
  | _, W, x => ∃ g, x = .slice (some ⟨g, 0, none⟩) F.Z F.Z ∧ F.base ≤ g ∧ W.rowIs g 3 F.Z (fun _ => .int .i64 0)

theorem ph_one {F : Duo} {a : Nat} {W : World} {x : Value} (h : F.ph a W x) : x.oneCell' = true := by
  match a, h with
  | 0, h => have h : x = .int .u64 F.hv := h; subst h; rfl
  | a + 1, ⟨g, h, _⟩ => subst h; rfl
theorem ph_stays {F : Duo} (hb : ∀ a, a < 2 → F.b a < F.base) {X Y : World} (o : Only F.has X Y) {a : Nat} {x : Value} (h : F.ph a X x) : F.ph a Y x := by
  match a, h with
  | 0, h => exact h
  | a + 1, ⟨g, h1, h2, h3⟩ =>
    refine ⟨g, h1, h2, h3.of_block (o.block _ h3.lt ?_)⟩
    rintro ⟨a', ha', e⟩
    have := hb a' ha'
    omega
end Duo

/-- while they grow: what lies there lies there, with one more or not -/
structure Keep2 (F : Duo) (X Y : World) : Prop where
  only : Only F.has X Y
  v1 : ∀ a, a < 2 → Rw X (duoT a) (F.b a) (F.c a) (F.l a) → Rw Y (duoT a) (F.b a) (F.c a) (F.l a)
  v2 : ∀ a, a < 2 → (∃ x, F.ph a X x ∧ Rw X (duoT a) (F.b a) (F.c a) (F.l a ++ [x])) → ∃ x, F.ph a Y x ∧ Rw Y (duoT a) (F.b a) (F.c a) (F.l a ++ [x])

section
variable {F : Duo} {X Y : World}
theorem Keep2.refl (X : World) : Keep2 F X X := ⟨Only.refl _ _, fun _ _ h => h, fun _ _ h => h⟩
theorem Keep2.trans (X Y Z : World) (h : Keep2 F X Y) (k : Keep2 F Y Z) : Keep2 F X Z := ⟨h.only.trans k.only, fun a ha r => k.v1 a ha (h.v1 a ha r), fun a ha r => k.v2 a ha (h.v2 a ha r)⟩
theorem Keep2.grown (hb : ∀ a, a < 2 → F.b a < F.base) (g : Grown X Y) : Keep2 F X Y := ⟨Only.ofGrown g, fun _ _ h => h.grown g, fun _ _ ⟨x, h1, h2⟩ => ⟨x, Duo.ph_stays hb (Only.ofGrown g) h1, h2.grown g⟩⟩
theorem Keep2.app (hb : ∀ a, a < 2 → F.b a < F.base) {a : Nat} (ha : a < 2) (hne : ∀ a', a' < 2 → a' ≠ a → F.b a' ≠ F.b a) (o : Only (fun k => k = F.b a) X Y) (h1 : Rw Y (duoT a) (F.b a) (F.c a) (F.l a)) {x : Value} (px : F.ph a Y x) (h2 : Rw Y (duoT a) (F.b a) (F.c a) (F.l a ++ [x])) : Keep2 F X Y := by
  have o' : Only F.has X Y := ⟨o.os, o.tape, o.output, o.size, fun k hk hn => o.block k hk (fun e => hn ⟨a, ha, e⟩)⟩
  refine ⟨o', fun a' ha' h => ?_, fun a' ha' h => ?_⟩
  · by_cases e : a' = a
    · subst e; exact h1
    · exact h.only o (hne a' ha' e)
  · by_cases e : a' = a
    · subst e; exact ⟨x, px, h2⟩
    · obtain ⟨y, p, r⟩ := h
      exact ⟨y, Duo.ph_stays hb o' p, r.only o (hne a' ha' e)⟩

/-- what an append leaves -/
def Duo.grew (F : Duo) (a : Nat) (W : World) (v : Value) : Prop := ∃ b' c' x, v = .slice (some ⟨b', 0, none⟩) ((F.l a).length + 1) c' ∧ F.ph a W x ∧ Rw W (duoT a) b' c' (F.l a ++ [x]) ∧ ((b' = F.b a ∧ c' = F.c a) ∨ F.base ≤ b')
theorem Duo.grew_stays {a : Nat} (ha : a < 2) (hb : ∀ a, a < 2 → F.b a < F.base) (X Y : World) (v : Value) (k : Keep2 F X Y) (h : F.grew a X v) : F.grew a Y v := by
  obtain ⟨b', c', x, rfl, p, r, e⟩ := h
  rcases e with ⟨rfl, rfl⟩ | e
  · obtain ⟨y, p', r'⟩ := k.v2 a ha ⟨x, p, r⟩
    exact ⟨_, _, y, rfl, p', r', Or.inl ⟨rfl, rfl⟩⟩
  · refine ⟨b', c', x, rfl, Duo.ph_stays hb k.only p, r.only k.only ?_, Or.inr e⟩
    rintro ⟨a', ha', e'⟩
    have := hb a' ha'
    omega

/-- a slice of one value, in a block of its own -/
def Duo.boxd (F : Duo) (a : Nat) (W : World) (v : Value) : Prop := ∃ g x, v = .slice (some ⟨g, 0, none⟩) 1 1 ∧ F.base ≤ g ∧ F.ph a W x ∧ W.cell? ⟨g, 0, none⟩ = some x
theorem Duo.boxd_stays {a : Nat} (hb : ∀ a, a < 2 → F.b a < F.base) (X Y : World) (v : Value) (k : Keep2 F X Y) (h : F.boxd a X v) : F.boxd a Y v := by
  obtain ⟨g, x, rfl, h1, p, h2⟩ := h
  refine ⟨g, x, rfl, h1, Duo.ph_stays hb k.only p, k.only.keep (b := g) ?_ h2⟩
  rintro ⟨a', ha', e⟩
  have := hb a' ha'
  omega
theorem Duo.ph_keep {a : Nat} (hb : ∀ a, a < 2 → F.b a < F.base) (X Y : World) (v : Value) (k : Keep2 F X Y) (h : F.ph a X v) : F.ph a Y v := Duo.ph_stays hb k.only h

theorem Tryz.infoR22 : (Tryz.prog.info? 22).map (fun i => (i.zero, i.size, i.bytes)) = some (some (.slice none 0 0), 1, 24) := by kernel_rfl

/-- an append at its place in such a region -/
theorem Duo.app {a : Nat} (ha : a < 2) (hb : ∀ a, a < 2 → F.b a < F.base) (hne : ∀ a', a' < 2 → a' ≠ a → F.b a' ≠ F.b a) {S : TypeId} {z : Value} {bytes : Nat} (hu : Tryz.prog.underlying S = some (.slice (duoT a))) (hi0 : (Tryz.prog.info? (duoT a)).map (fun i => (i.zero, i.size, i.bytes)) = some (some z, 1, bytes)) (hz : z.cells.size = 1) (hby : bytes ≤ 24)
    {w0 w : World} (h0 : Rw w0 (duoT a) (F.b a) (F.c a) (F.l a)) (k : Keep2 F w0 w) {v : Value} (hv : F.boxd a w v) (hl : (F.l a).length ≤ 1000) (hbw : F.base ≤ w.heap.size) (ty : TypeId) {b c n : Nat} (eb : F.b a = b) (ec : F.c a = c) (en : (F.l a).length = n) :
    ∃ v' w', (Builtin.append_ #[S, S] ty #[.slice (some ⟨b, 0, none⟩) n c, v]).run Tryz.prog w = .ok v' w' ∧ Keep2 F w w' ∧ F.grew a w' v' := by
  subst eb ec en
  obtain ⟨g, x, rfl, h1, p, h2⟩ := hv
  obtain ⟨b', c', w', hrun, r, o, e⟩ := (k.v1 a ha h0).app hu hi0 hz hby g x (Duo.ph_one p) h2 hl ty
  have o' : Only F.has w w' := ⟨o.os, o.tape, o.output, o.size, fun k hk hn => o.block k hk (fun e => hn ⟨a, ha, e⟩)⟩
  have p' := Duo.ph_stays hb o' p
  refine ⟨_, w', hrun, ?_, b', c', x, rfl, p', r, ?_⟩
  · rcases e with ⟨rfl, rfl, h1⟩ | ⟨_, g⟩
    · exact Keep2.app hb ha hne o h1 p' r
    · exact Keep2.grown hb g
  · rcases e with ⟨h1, h2, _⟩ | ⟨h, _⟩
    · exact Or.inl ⟨h1, h2⟩
    · exact Or.inr (by omega)
end

/-- an append among a region's operations -/
theorem rely_append2 {P : Program} {R : World → World → Prop} {o : Oper} {a : Act} {w w' : World} {φ : World → Value → Prop} {t : TypeId} {v vx v' : Value} (s x : Operand)
    (ho : o.op = .call { callee := .builtin .append, args := #[s, x], argTypes := #[t, t] }) (hs : a.eval s = v) (hx : a.eval x = vx)
    (hr : (Builtin.append_ #[t, t] o.type #[v, vx]).run P w = .ok v' w') (hR : R w w') (hφ : φ w' v') : relyUpon P R w φ ((execOp a.eval o).run P w) := by
  unfold execOp
  simp only [ho, resolve, invoke, builtin, Sem.run_bind, Sem.run_pure, Result.andThen_ok, List.map_toArray, List.map_cons, List.map_nil, hs, hx, hr]
  exact ⟨hR, hφ⟩

/-- a block that is none of the arena's -/
structure Lone (w0 : World) (L : Loc) (E b : Nat) : Prop where
  p : w0.heap.size ≤ b
  l : ¬ L.has b
  e : E ≠ b

/-- the rows -/
structure Grid (w0 w : World) (L : Loc) (E : Nat) (rs : List Ob) (F : Nat → Nat → Int) (b1 c1 b2 c2 : Nat) : Prop where
  r1 : Rw w 35 b1 c1 (rs.map Ob.h)
  r2 : Rw w 22 b2 c2 (rs.map Ob.w)
  wr : ∀ (K : Nat) (r : Ob), rs[K]? = some r → w.rowIs r.b 3 r.o.Z (fun j => .int .i64 (F K j))
  ne : ∀ (K K' : Nat) (r r' : Ob), K ≠ K' → rs[K]? = some r → rs[K']? = some r' → r.b ≠ r'.b
  f1 : Lone w0 L E b1
  f2 : Lone w0 L E b2
  fr : ∀ (K : Nat) (r : Ob), rs[K]? = some r → Lone w0 L E r.b

/-- a block of the rows -/
def Gh (rs : List Ob) (b1 b2 b : Nat) : Prop := b = b1 ∨ b = b2 ∨ ∃ (K : Nat) (r : Ob), rs[K]? = some r ∧ b = r.b

section
variable {w0 w w' : World} {L : Loc} {E : Nat} {rs : List Ob} {F : Nat → Nat → Int} {b1 c1 b2 c2 : Nat}

theorem Grid.lt (h : Grid w0 w L E rs F b1 c1 b2 c2) {b : Nat} (hb : Gh rs b1 b2 b) : b < w.heap.size := by
  rcases hb with rfl | rfl | ⟨K, r, e, rfl⟩
  · exact h.r1.lt
  · exact h.r2.lt
  · exact (h.wr K r e).lt
theorem Grid.lone (h : Grid w0 w L E rs F b1 c1 b2 c2) {b : Nat} (hb : Gh rs b1 b2 b) : Lone w0 L E b := by
  rcases hb with rfl | rfl | ⟨K, r, e, rfl⟩
  · exact h.f1
  · exact h.f2
  · exact h.fr K r e
theorem Grid.only {S : Nat → Prop} (h : Grid w0 w L E rs F b1 c1 b2 c2) (o : Only S w w') (hs : ∀ b, Gh rs b1 b2 b → ¬ S b) : Grid w0 w' L E rs F b1 c1 b2 c2 :=
  ⟨h.r1.only o (hs _ (Or.inl rfl)), h.r2.only o (hs _ (Or.inr (Or.inl rfl))), fun K r e => (h.wr K r e).of_block (o.block _ (h.wr K r e).lt (hs _ (Or.inr (Or.inr ⟨K, r, e, rfl⟩)))), h.ne, h.f1, h.f2, h.fr⟩
theorem Grid.grown (h : Grid w0 w L E rs F b1 c1 b2 c2) (g : Below w.heap.size w w') : Grid w0 w' L E rs F b1 c1 b2 c2 := h.only (S := fun _ => False) (Only.ofGrown g) (fun _ _ h => h)
theorem Grid.mem (h : Grid w0 w L E rs F b1 c1 b2 c2) (o : Only L.has w w') : Grid w0 w' L E rs F b1 c1 b2 c2 := h.only o (fun _ hb => (h.lone hb).l)
/-- a word of one is laid -/
theorem Grid.set (h : Grid w0 w L E rs F b1 c1 b2 c2) {K : Nat} {r : Ob} (hr : rs[K]? = some r) (j : Nat) (v : Int) : Grid w0 (w.setCell ⟨r.b, j, none⟩ (.int .i64 v)) L E rs (fun K' j' => if K' = K ∧ j' = j then v else F K' j') b1 c1 b2 c2 := by
  have o := only_set (X := r.b) w j (.int .i64 v)
  have hw := h.wr K r hr
  refine ⟨h.r1.only o (fun e => (h.r1.ne_row hw (by decide)) e.symm), h.r2.only o (fun e => (h.r2.ne_row hw (by decide)) e.symm), fun K' r' e => ?_, h.ne, h.f1, h.f2, h.fr⟩
  by_cases ek : K' = K
  · subst ek
    rw [hr] at e
    cases e
    refine (hw.set j _).congr fun j' _ => ?_
    by_cases e : j' = j <;> simp [e]
  · refine ((h.wr K' r' e).of_block (o.block _ (h.wr K' r' e).lt (fun e' => h.ne K' K r' r ek e hr e'))).congr fun j' _ => ?_
    simp [ek]

/-- both have one more -/
theorem Grid.grew (h : Grid w0 w L E rs (fun _ _ => 0) b1 c1 b2 c2) (hE : E < w.heap.size) (hw : w0.heap.size ≤ w.heap.size) (hL : ∀ b, L.has b → b < w.heap.size) {F : Duo} (e1 : F.b 0 = b1) (e2 : F.b 1 = b2) (l1 : F.l 0 = rs.map Ob.h) (l2 : F.l 1 = rs.map Ob.w) {o : Ox} (hv : F.hv = packH o.x o.g) (hZ : F.Z = o.Z) (hB : F.base = w.heap.size) (k : Keep2 F w w') {v1 v2 : Value} (g1 : F.grew 0 w' v1) (g2 : F.grew 1 w' v2) :
    ∃ b b1' c1' b2' c2', v1 = .slice (some ⟨b1', 0, none⟩) (rs ++ [(⟨o, b⟩ : Ob)]).length c1' ∧ v2 = .slice (some ⟨b2', 0, none⟩) (rs ++ [(⟨o, b⟩ : Ob)]).length c2' ∧ Grid w0 w' L E (rs ++ [(⟨o, b⟩ : Ob)]) (fun _ _ => 0) b1' c1' b2' c2' := by
  obtain ⟨b1', c1', x1, rfl, p1, r1, a1⟩ := g1
  obtain ⟨b2', c2', x2, rfl, p2, r2, a2⟩ := g2
  have p1 : x1 = .int .u64 F.hv := p1
  obtain ⟨g, rfl, hg, row⟩ : ∃ g, x2 = .slice (some ⟨g, 0, none⟩) F.Z F.Z ∧ F.base ≤ g ∧ w'.rowIs g 3 F.Z (fun _ => .int .i64 0) := p2
  have lone : ∀ b, w.heap.size ≤ b → Lone w0 L E b := fun b hb => ⟨by omega, fun h => by have := hL b h; omega, by omega⟩
  have at_ : ∀ (K : Nat) (r : Ob), (rs ++ [(⟨o, g⟩ : Ob)])[K]? = some r → rs[K]? = some r ∨ (K = rs.length ∧ r = ⟨o, g⟩) := fun K r e => by
    by_cases hk : K < rs.length
    · rw [List.getElem?_append_left hk] at e; exact Or.inl e
    · rw [List.getElem?_append_right (by omega)] at e
      have hk2 : K - rs.length < 1 := by have := (List.getElem?_eq_some_iff.1 e).1; simpa using this
      have : K = rs.length := by omega
      subst this
      simp at e
      exact Or.inr ⟨rfl, e.symm⟩
  refine ⟨g, b1', c1', b2', c2', by rw [l1]; simp, by rw [l2]; simp, ?_, ?_, fun K r e => ?_, fun K K' r r' hne e e' => ?_, ?_, ?_, fun K r e => ?_⟩
  · rw [List.map_append, ← l1]
    have : [(⟨o, g⟩ : Ob)].map Ob.h = [x1] := by rw [p1, hv]; rfl
    rw [this]; exact r1
  · rw [List.map_append, ← l2]
    have : [(⟨o, g⟩ : Ob)].map Ob.w = [.slice (some ⟨g, 0, none⟩) F.Z F.Z] := by rw [hZ]; rfl
    rw [this]; exact r2
  · rcases at_ K r e with e | ⟨_, rfl⟩
    · refine (h.wr K r e).of_block (k.only.block _ (h.wr K r e).lt ?_)
      rintro ⟨a, ha, ea⟩
      have : a = 0 ∨ a = 1 := by omega
      rcases this with rfl | rfl
      · rw [e1] at ea; exact h.r1.ne_row (h.wr K r e) (by decide) ea
      · rw [e2] at ea; exact h.r2.ne_row (h.wr K r e) (by decide) ea
    · rw [hZ] at row; exact row
  · rcases at_ K r e with e | ⟨k1, rfl⟩ <;> rcases at_ K' r' e' with e' | ⟨k2, rfl⟩
    · exact h.ne K K' r r' hne e e'
    · have := (h.wr K r e).lt
      show r.b ≠ g
      omega
    · have := (h.wr K' r' e').lt
      show g ≠ r'.b
      omega
    · omega
  · rcases a1 with ⟨rfl, _⟩ | a1
    · rw [e1]; exact h.f1
    · exact lone _ (by omega)
  · rcases a2 with ⟨rfl, _⟩ | a2
    · rw [e2]; exact h.f2
    · exact lone _ (by omega)
  · rcases at_ K r e with e | ⟨_, rfl⟩
    · exact h.fr K r e
    · exact lone _ (by show w.heap.size ≤ g; omega)
end

/-- the words of all, told without a program -/
structure Crop (q : Q) (rs : List Ob) (F : Nat → Nat → Int) : Prop where
  sc : ∀ (K : Nat) (r : Ob), rs[K]? = some r → Scn 1 8 8 40 r.o.x r.o.g r.o.Z r.o.i (q.sw r.o.x) false q
  cl : ∀ (K : Nat) (r : Ob), rs[K]? = some r → ∀ j, j < r.o.Z → q.dw (adOf (q.sw r.o.x) + 1 + j) = F K j ∧ 0 ≤ F K j ∧ F K j ≤ 1099511627775
  ap : ∀ (K K' : Nat) (r r' : Ob), K ≠ K' → rs[K]? = some r → rs[K']? = some r' → ∀ j j', j ≤ r.o.Z → j' ≤ r'.o.Z → adOf (q.sw r.o.x) + j ≠ adOf (q.sw r'.o.x) + j'
  hd : ∀ (K : Nat) (r : Ob), rs[K]? = some r → HandIs (packH r.o.x r.o.g) r.o.x r.o.g ∧ r.o.x < 8

theorem hand_of {x G : Nat} (hx : x ≤ 65535) (g1 : 1 ≤ G) (g2 : G ≤ 65535) : HandIs (packH x G) x G := by
  rw [packH_is _ _ (by omega) (by omega)]
  exact ⟨by omega, by omega, by omega, by omega⟩

theorem crop0 {q : Q} {nx : Nat} {rs : List Ob} (hG : Good 1 8 8 40 100 600 3) (C : Tame 1 8 8 40 q nx (fun _ => 1) (rs.map Ob.o).reverse) (ow : ∀ r ∈ rs, r.o.own = false) : Crop q rs (fun _ _ => 0) := by
  have mem : ∀ (K : Nat) (r : Ob), rs[K]? = some r → r.o ∈ (rs.map Ob.o).reverse := fun K r e => by
    rw [List.mem_reverse]
    exact List.mem_map.2 ⟨r, List.mem_of_getElem? e, rfl⟩
  have pw : ∀ (K K' : Nat) (r r' : Ob), K ≠ K' → rs[K]? = some r → rs[K']? = some r' → r.o.apart r'.o := by
    have p := C.pw
    rw [List.pairwise_reverse, List.pairwise_map, List.pairwise_iff_getElem] at p
    intro K K' r r' hne e e'
    obtain ⟨h1, e1⟩ := List.getElem?_eq_some_iff.1 e
    obtain ⟨h2, e2⟩ := List.getElem?_eq_some_iff.1 e'
    rcases Nat.lt_or_gt_of_ne hne with h | h
    · have := p K K' h1 h2 h
      rw [e1, e2] at this
      exact Ox.apart_symm this
    · have := p K' K h2 h1 h
      rw [e1, e2] at this
      exact this
  refine ⟨fun K r e => ?_, fun K r e j hj => ?_, fun K K' r r' hne e e' j j' hj hj' => ?_, fun K r e => ?_⟩
  · have := C.scn hG (by decide) (mem K r e)
    rwa [ow r (List.mem_of_getElem? e)] at this
  · have I := C.is hG (by decide) (mem K r e)
    rw [I.ad, Nat.add_assoc]
    exact ⟨(C.li r.o (mem K r e)).nt (1 + j) (by omega) (by omega), Int.le_refl _, by decide⟩
  · have I := C.is hG (by decide) (mem K r e)
    have I' := C.is hG (by decide) (mem K' r' e')
    have O := C.ok r.o (mem K r e)
    have O' := C.ok r'.o (mem K' r' e')
    rw [I.ad, I'.ad]
    have s := size_room O.z1 O.kz
    have s' := size_room O'.z1 O'.kz
    have u := O.uk
    have u' := O'.uk
    have e3 : r'.o.a + j' = base 1 8 8 40 r'.o.i + (r'.o.u + j') := by rw [O'.ae]; omega
    have e4 : r.o.a + j = base 1 8 8 40 r.o.i + (r.o.u + j) := by rw [O.ae]; omega
    rcases (pw K K' r r' hne e e').2 with h | h | h
    · rw [e3]; exact Ox.word_apart O hj (by omega) (Or.inl h)
    · rw [e3]; exact Ox.word_apart O hj (by omega) (Or.inr (by omega))
    · rw [e4]; exact fun h' => Ox.word_apart O' hj' (by omega) (Or.inr (by omega)) h'.symm
  · have O := C.ok r.o (mem K r e)
    exact ⟨hand_of (by have := O.x1; omega) O.g1 O.g2, O.x1⟩

section
variable {q : Q} {rs : List Ob} {F : Nat → Nat → Int} {K σ : Nat} {r : Ob} {W : Wt}

theorem Crop.out (C : Crop q rs F) (hr : rs[K]? = some r) (h : ¬ (0 ≤ W.ix ∧ W.ix < r.o.Z)) : ARuns 1 8 8 40 W false r.o.x r.o.g true 2 σ q .see q (.over 4 0 (σ + 1)) := (C.sc K r hr).index h

/-- a word is read, or something else is there -/
theorem Crop.reads (C : Crop q rs F) (hr : rs[K]? = some r) {j : Nat} (hj : j < r.o.Z) (hi : W.ix = j) {E : Int} (hE : (W.kd = 1 ∧ E = 0) ∨ (W.kd = 3 ∧ F K j ≠ W.ol ∧ E = 8)) : ARuns 1 8 8 40 W false r.o.x r.o.g true 4 σ q .see q (.over E (F K j) (σ + 3)) := by
  obtain ⟨c1, c2, c3⟩ := C.cl K r hr j hj
  have ha : W.at (q.sw r.o.x) = adOf (q.sw r.o.x) + 1 + j := by unfold Wt.at; rw [hi]; simp
  have hv := vOf_val c2 c3
  have hrd : W.reads (F K j) = true := by
    unfold Wt.reads Wt.other
    rw [hv]
    rcases hE with ⟨h, _⟩ | ⟨h, h2, _⟩ <;> simp [h]
    exact h2
  have k := (C.sc K r hr).reads (W := W) (σ := σ) (by omega) (by omega) (c := F K j) (by rw [ha]; exact c1) hrd
  have hE' : (if W.other (F K j) then (8 : Int) else 0) = E := by
    unfold Wt.other
    rw [hv]
    rcases hE with ⟨h, h2⟩ | ⟨h, h2, h3⟩
    · simp [h, h2]
    · simp [h, h2, h3]
  rw [hE', hv] at k
  exact k

/-- a word is laid -/
theorem Crop.lays (C : Crop q rs F) (hr : rs[K]? = some r) {j : Nat} (hj : j < r.o.Z) (hi : W.ix = j) (hvl : 0 ≤ W.vl ∧ W.vl ≤ 1099511627775) (hk : W.kd = 2 ∨ (W.kd = 3 ∧ F K j = W.ol)) :
    ∃ q', ARuns 1 8 8 40 W false r.o.x r.o.g false 4 σ q .see q' (.over 0 (F K j) (σ + 4)) ∧ Crop q' rs (fun K' j' => if K' = K ∧ j' = j then W.vl else F K' j') := by
  obtain ⟨c1, c2, c3⟩ := C.cl K r hr j hj
  have ha : W.at (q.sw r.o.x) = adOf (q.sw r.o.x) + 1 + j := by unfold Wt.at; rw [hi]; simp
  have hv := vOf_val c2 c3
  have hw : W.w = W.vl := packX_val hvl.1 hvl.2
  have hrd : W.reads (F K j) = false := by
    unfold Wt.reads Wt.other
    rw [hv]
    rcases hk with h | ⟨h, h2⟩
    · simp [h]
    · simp [h, h2]
  have k := (C.sc K r hr).lays (W := W) (σ := σ) (by omega) (by omega) (c := F K j) (by rw [ha]; exact c1) hrd (by rw [frB_val c3]; rfl)
  rw [hv, ha] at k
  refine ⟨_, k, fun K' r' e => ?_, fun K' r' e j' hj' => ?_, C.ap, C.hd⟩
  · by_cases ek : K' = K
    · subst ek
      rw [hr] at e
      cases e
      exact (C.sc K' r hr).upd W.w_wd
    · have S := C.sc K' r' e
      have hne : adOf (q.sw r'.o.x) ≠ adOf (q.sw r.o.x) + 1 + j := by
        have := C.ap K' K r' r ek e hr 0 (1 + j) (Nat.zero_le _) (by omega)
        omega
      refine ⟨S.sw, S.o, S.st, S.gn, ?_, ?_, fun a => ?_, S.xn⟩
      · show szOf (Go.Proofs.YtcdmokbamakomaaGreat.upd q.dw _ _ _) = _
        rw [upd_other _ _ _ _ hne]; exact S.sz
      · show ownOf (Go.Proofs.YtcdmokbamakomaaGreat.upd q.dw _ _ _) = _
        rw [upd_other _ _ _ _ hne]; exact S.ow
      · show Wd (Go.Proofs.YtcdmokbamakomaaGreat.upd q.dw _ _ a)
        by_cases e : a = adOf (q.sw r.o.x) + 1 + j
        · subst e; rw [upd_same]; exact W.w_wd
        · rw [upd_other _ _ _ _ e]; exact S.wd a
  · show Go.Proofs.YtcdmokbamakomaaGreat.upd q.dw _ _ (adOf (q.sw r'.o.x) + 1 + j') = (if K' = K ∧ j' = j then W.vl else F K' j') ∧ 0 ≤ (if K' = K ∧ j' = j then W.vl else F K' j') ∧ (if K' = K ∧ j' = j then W.vl else F K' j') ≤ 1099511627775
    by_cases ek : K' = K
    · subst ek
      rw [hr] at e
      cases e
      by_cases ej : j' = j
      · subst ej
        rw [upd_same, if_pos ⟨rfl, rfl⟩]
        exact ⟨hw, hvl⟩
      · rw [upd_other _ _ _ _ (by omega), if_neg (fun h => ej h.2)]
        exact C.cl K' r hr j' hj'
    · have hne : adOf (q.sw r'.o.x) + 1 + j' ≠ adOf (q.sw r.o.x) + 1 + j := by
        have := C.ap K' K r' r ek e hr (1 + j') (1 + j) (by omega) (by omega)
        omega
      rw [upd_other _ _ _ _ hne, if_neg (fun h => ek h.1)]
      exact C.cl K' r' e j' hj'
end

theorem pick10 (nu : Int) (N : Nat) (h0 : 1 ≤ N) (h1 : 0 ≤ nu) : ∃ K : Nat, nu.tmod N = (K : Int) ∧ K < N := by
  have h3 : nu.tmod N < N := Int.tmod_lt_of_pos nu (by omega)
  have h4 : 0 ≤ nu.tmod N := Int.tmod_nonneg _ h1
  exact ⟨(nu.tmod N).toNat, by omega, by omega⟩

end Go.Proofs.YtcdmokbamakomaaGreat
