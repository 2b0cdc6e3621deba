/- A region that draws its order, whose first operations only read or call what leaves all that was there, and which then makes two new blocks, at whatever time, ahead of its last stores: one look at each operation serves every order. -/
import Derived.Test.YtocmkmeikcejjaaLater
import Derived.StillTail
namespace Go.Proofs.Ytocmkmeikcejjaa
open Go.RowKit

section
variable {P : Program} {ops : Array Oper} {Q : Exit → Act → World → Prop}

/-- what is asked of an operation's outcome in the world w: the value v in that world; or a call that hands back v, and leaves all that was there -/
def softUpon (P : Program) (w : World) (v : Value) : Result Next → Prop
  | .ok (.value u) w' => w' = w ∧ u = v
  | .ok (.enter f args) w' => w' = w ∧ Calls P f args w (fun e w'' => e = .returned v ∧ Below w.heap.size w w'')
  | _ => False

def soft (P : Program) (o : Oper) (e : Operand → Value) (w : World) (v : Value) : Prop := softUpon P w v ((execOp e o).run P w)

/-- the operations one by one, each in the frame that those ahead of it leave, in every world that came out of W -/
def softAll (P : Program) (W : World) : List Oper → List Value → Act → Prop
  | [], [], _ => True
  | o :: os, v :: vs, a => (∀ w', Below W.heap.size W w' → soft P o a.eval w' v) ∧ softAll P W os vs (a.put o.dst v)
  | _, _, _ => False

/-- the frame behind those operations that L tells -/
def putL (L : Nat → Bool) : List Oper → List Value → Nat → Act → Act
  | o :: os, v :: vs, j, a => putL L os vs (j + 1) (if L j then a.put o.dst v else a)
  | _, _, _, a => a

theorem put_size (a : Act) (d : Option Tmp) (v : Value) : (a.put d v).tmps.size = a.tmps.size := by
  cases d <;> simp [Act.put]

theorem put_eval_same (a a' : Act) (d : Option Tmp) (v : Value) (t : Tmp) (hs : a.tmps.size = a'.tmps.size) (h : a.eval (.tmp t) = a'.eval (.tmp t)) :
    (a.put d v).eval (.tmp t) = (a'.put d v).eval (.tmp t) := by
  cases d with
  | none => exact h
  | some d =>
    by_cases e : d = t
    · subst e
      simp [Act.eval, Act.put, Array.getElem?_setIfInBounds, hs]
    · rw [Act.eval_put (fun x hx => by cases hx; simpa using Ne.symm e), Act.eval_put (fun x hx => by cases hx; simpa using Ne.symm e)]
      exact h

theorem putL_eval {L L' : Nat → Bool} {t : Tmp} : ∀ (os : List Oper) (vs : List Value) (j : Nat) (a a' : Act), a.tmps.size = a'.tmps.size → a.eval (.tmp t) = a'.eval (.tmp t) →
    (∀ r o, os[r]? = some o → o.dst = some t → L (j + r) = L' (j + r)) → (putL L os vs j a).eval (.tmp t) = (putL L' os vs j a').eval (.tmp t)
  | [], _, _, _, _, _, h, _ => by simpa [putL] using h
  | _ :: _, [], _, _, _, _, h, _ => by simpa [putL] using h
  | o :: os, v :: vs, j, a, a', hs, h, hL => by
    simp only [putL]
    refine putL_eval os vs (j + 1) _ _ ?_ ?_ (fun r o' ho' hd => ?_)
    · split <;> split <;> simp [put_size, hs]
    · by_cases hd : o.dst = some t
      · have e := hL 0 o rfl hd
        simp only [Nat.add_zero] at e
        rw [e]
        split
        · exact put_eval_same _ _ _ _ _ hs h
        · exact h
      · have e1 : ∀ b : Act, (b.put o.dst v).eval (.tmp t) = b.eval (.tmp t) := fun b => Act.eval_put fun x hx he => by
          injection he with he; exact hd (by rw [hx, he])
        split <;> split <;> simp [e1, h]
    · have := hL (r + 1) o' (by simpa using ho') hd
      rwa [show j + (r + 1) = j + 1 + r from by omega] at this

theorem putL_none {L : Nat → Bool} : ∀ (os : List Oper) (vs : List Value) (j : Nat) (a : Act), (∀ i, j ≤ i → L i = false) → putL L os vs j a = a
  | [], _, _, _, _ => by simp [putL]
  | _ :: _, [], _, _, _ => by simp [putL]
  | o :: os, v :: vs, j, a, h => by
    simp only [putL, h j (Nat.le_refl _), Bool.false_eq_true, if_false]
    exact putL_none os vs (j + 1) a fun i hi => h i (by omega)

/-- a put that is apart from all of them goes through -/
theorem putL_put {L : Nat → Bool} {d : Option Tmp} {u : Value} : ∀ (os : List Oper) (vs : List Value) (j : Nat) (a : Act), (∀ o ∈ os, ∀ x, d = some x → o.dst ≠ some x) →
    putL L os vs j (a.put d u) = (putL L os vs j a).put d u
  | [], _, _, _, _ => by simp [putL]
  | _ :: _, [], _, _, _ => by simp [putL]
  | o :: os, v :: vs, j, a, h => by
    simp only [putL]
    rw [← putL_put os vs (j + 1) _ fun o' ho' => h o' (List.mem_cons_of_mem _ ho')]
    congr 1
    split
    · exact Act.put_comm a u v (h o (List.mem_cons_self ..))
    · rfl

theorem putL_set {L L' : Nat → Bool} {i : Nat} : ∀ (os : List Oper) (vs : List Value) (j : Nat) (a : Act) (o : Oper) (v : Value), os[i]? = some o → vs[i]? = some v →
    (∀ (r s : Nat) (x y : Oper), os[r]? = some x → os[s]? = some y → r < s → ∀ d, x.dst = some d → y.dst ≠ some d) →
    L (j + i) = false → L' (j + i) = true → (∀ k, k ≠ j + i → L' k = L k) → putL L' os vs j a = (putL L os vs j a).put o.dst v := by
  induction i with
  | zero =>
    intro os vs j a o v ho hv hap h0 h1 hk
    match os, vs, ho, hv with
    | o' :: os, v' :: vs, ho, hv =>
      simp only [List.getElem?_cons_zero, Option.some.injEq] at ho hv
      subst ho hv
      simp only [Nat.add_zero] at h0 h1
      simp only [putL, h0, h1, if_true, Bool.false_eq_true, if_false]
      rw [← putL_put os vs (j + 1) a (fun o2 h2 x hx => ?_)]
      · have : ∀ (os : List Oper) (vs : List Value) (q : Nat) (b : Act), j < q → putL L' os vs q b = putL L os vs q b := by
          intro os
          induction os with
          | nil => intro vs q b _; simp [putL]
          | cons o2 os ih =>
            intro vs q b hq
            cases vs with
            | nil => simp [putL]
            | cons v2 vs => simp only [putL, hk q (by omega)]; exact ih vs (q + 1) _ (by omega)
        exact this _ _ _ _ (by omega)
      · obtain ⟨s, hs⟩ := List.mem_iff_getElem?.1 h2
        exact hap 0 (s + 1) o' o2 rfl (by simpa using hs) (by omega) x hx
  | succ i ih =>
    intro os vs j a o v ho hv hap h0 h1 hk
    match os, vs, ho, hv with
    | o' :: os, v' :: vs, ho, hv =>
      simp only [putL, hk j (by omega)]
      exact ih os vs (j + 1) _ o v (by simpa using ho) (by simpa using hv) (fun r s x y hx hy hrs => hap (r + 1) (s + 1) x y (by simpa using hx) (by simpa using hy) (by omega))
        (by rwa [show j + 1 + i = j + (i + 1) from by omega]) (by rwa [show j + 1 + i = j + (i + 1) from by omega]) (fun k hk' => hk k (by omega))

theorem softAll_at {W : World} {i : Nat} : ∀ (os : List Oper) (vs : List Value) (j : Nat) (a : Act) (o : Oper), softAll P W os vs a → os[i]? = some o →
    ∃ v, vs[i]? = some v ∧ ∀ w', Below W.heap.size W w' → soft P o (putL (fun k => decide (k < j + i)) os vs j a).eval w' v := by
  induction i with
  | zero =>
    intro os vs j a o h ho
    match os, vs, ho, h with
    | o' :: os, v' :: vs, ho, h =>
      simp only [List.getElem?_cons_zero, Option.some.injEq] at ho
      subst ho
      refine ⟨v', rfl, ?_⟩
      rw [putL_none _ _ _ _ (fun k hk => by simp; omega)]
      exact h.1
  | succ i ih =>
    intro os vs j a o h ho
    match os, vs, ho, h with
    | o' :: os, v' :: vs, ho, h =>
      obtain ⟨v, hv, hs⟩ := ih os vs (j + 1) _ o h.2 (by simpa using ho)
      refine ⟨v, by simpa using hv, ?_⟩
      simp only [putL, show decide (j < j + (i + 1)) = true from by simp, if_true]
      rwa [show j + (i + 1) = j + 1 + i from by omega]

theorem softAll_length {W : World} : ∀ (os : List Oper) (vs : List Value) (a : Act), softAll P W os vs a → os.length = vs.length
  | [], [], _, _ => rfl
  | o :: os, v :: vs, a, h => by simp [softAll_length os vs _ h.2]

theorem wp_of_soft {o : Oper} {a : Act} {w : World} {v : Value} {K : Act → World → Prop} (h : soft P o a.eval w v) (hK : ∀ w', Below w.heap.size w w' → K (a.put o.dst v) w') : o.wp P a w K Q := by
  unfold soft at h
  unfold Oper.wp
  generalize (execOp a.eval o).run P w = r at *
  cases r with
  | ok n w' =>
    cases n <;> simp only [softUpon] at h <;> simp only [Oper.upon]
    case value u =>
      obtain ⟨e1, e2⟩ := h
      rw [e1, e2]
      exact hK _ (Below.refl _ _)
    case enter f args =>
      obtain ⟨e1, hc⟩ := h
      rw [e1]
      exact hc.mono fun e w'' ⟨he, hw''⟩ => by subst he; exact hK _ hw''
  | halt x w' => simp only [softUpon] at h

theorem putL_congr {L L' : Nat → Bool} : ∀ (os : List Oper) (vs : List Value) (j : Nat) (a : Act), (∀ i, j ≤ i → i < j + os.length → L i = L' i) → putL L os vs j a = putL L' os vs j a
  | [], _, _, _, _ => by simp [putL]
  | _ :: _, [], _, _, _ => by simp [putL]
  | o :: os, v :: vs, j, a, h => by
    simp only [putL, h j (Nat.le_refl _) (by simp)]
    exact putL_congr os vs (j + 1) _ fun i hi hl => h i (by omega) (by simp only [List.length_cons]; omega)

/-- a slot that holds where a new block is, if it was made -/
def putO (d : Tmp) (k : Option Nat) (a : Act) : Act :=
  match k with
  | some k => a.put (some d) (.pointer (some ⟨k, 0, none⟩))
  | none => a

theorem putO_put {d : Tmp} {k : Option Nat} {a : Act} {x : Option Tmp} {v : Value} (h : x ≠ some d) : putO d k (a.put x v) = (putO d k a).put x v := by
  cases k with
  | none => rfl
  | some k => exact Act.put_comm a v _ (fun y hy e => h (hy.trans e.symm))

theorem putO_eval {d : Tmp} {k : Option Nat} {a : Act} {x : Operand} (h : x ≠ .tmp d) : (putO d k a).eval x = a.eval x := by
  cases k with
  | none => rfl
  | some k => exact Act.eval_put fun y hy => by cases hy; exact h

/-- what is known of the world while the region runs -/
structure FloatW (W : World) (Zp Zq : Obj) (kp kq : Option Nat) (w : World) : Prop where
  below : Below W.heap.size W w
  p : ∀ k, kp = some k → W.heap.size ≤ k ∧ w.heap[k]? = some Zp
  q : ∀ l, kq = some l → W.heap.size ≤ l ∧ w.heap[l]? = some Zq
  ne : ∀ k l, kp = some k → kq = some l → k ≠ l

theorem FloatW.next {W : World} {Zp Zq : Obj} {kp kq : Option Nat} {w w' : World} (h : FloatW W Zp Zq kp kq w) (b : Below w.heap.size w w') : FloatW W Zp Zq kp kq w' :=
  ⟨grow h.below b, fun k hk => ⟨(h.p k hk).1, (b.block k (Array.getElem?_eq_some_iff.1 (h.p k hk).2).1).trans (h.p k hk).2⟩,
    fun k hk => ⟨(h.q k hk).1, (b.block k (Array.getElem?_eq_some_iff.1 (h.q k hk).2).1).trans (h.q k hk).2⟩, h.ne⟩

theorem heap_new (w : World) (o : Obj) : (w.alloc o).heap[w.heap.size]? = some o := heap_alloc_new w o

theorem FloatW.allocP {W : World} {Zp Zq : Obj} {kq : Option Nat} {w : World} (h : FloatW W Zp Zq none kq w) : FloatW W Zp Zq (some w.heap.size) kq (w.alloc Zp) := by
  have h' := h.next (Below.alloc (Below.refl w.heap.size w) (Nat.le_refl _) Zp)
  refine ⟨h'.below, fun k hk => ?_, h'.q, fun k l hk hl => ?_⟩
  · cases hk; exact ⟨h.below.size, heap_new w _⟩
  · cases hk
    have := (Array.getElem?_eq_some_iff.1 (h.q l hl).2).1
    omega

theorem FloatW.allocQ {W : World} {Zp Zq : Obj} {kp : Option Nat} {w : World} (h : FloatW W Zp Zq kp none w) : FloatW W Zp Zq kp (some w.heap.size) (w.alloc Zq) := by
  have h' := h.next (Below.alloc (Below.refl w.heap.size w) (Nat.le_refl _) Zq)
  refine ⟨h'.below, h'.p, fun k hk => ?_, fun k l hk hl => ?_⟩
  · cases hk; exact ⟨h.below.size, heap_new w _⟩
  · cases hl
    have := (Array.getElem?_eq_some_iff.1 (h.p k hk).2).1
    omega

/-- how many of the first n have not come up -/
def left (n : Nat) (listed : Array Bool) : Nat := (List.range n).countP fun i => !listed.getD i false

theorem left_set {listed : Array Bool} {i : Nat} (hi : i < listed.size) (h : listed.getD i false = false) : ∀ n, i < n → left n (listed.setIfInBounds i true) + 1 = left n listed := by
  have e1 : (listed.setIfInBounds i true).getD i false = true := by simp [hi]
  have low : ∀ n, n ≤ i → left n (listed.setIfInBounds i true) = left n listed := by
    intro n hn
    unfold left
    refine List.countP_congr fun x hx => ?_
    have := List.mem_range.1 hx
    rw [getD_set_ne false (by omega)]
  intro n
  induction n with
  | zero => intro h; omega
  | succ n ih =>
    intro hin
    have s : ∀ l : Array Bool, left (n + 1) l = left n l + if !l.getD n false then 1 else 0 := by
      intro l; simp [left, List.range_succ, List.countP_append, List.countP_cons]
    rw [s, s]
    rcases Nat.lt_or_ge i n with h' | h'
    · rw [getD_set_ne false (by omega), ← ih h']; omega
    · have : i = n := by omega
      subst this
      rw [low i (Nat.le_refl _), e1, h]; simp

theorem left_zero {listed : Array Bool} {n : Nat} (h : left n listed = 0) : ∀ i, i < n → listed.getD i false = true := by
  intro i hi
  have := List.countP_eq_zero.1 h i (List.mem_range.2 hi)
  simpa using this

theorem left_some {listed : Array Bool} : ∀ n, left n listed ≠ 0 → ∃ i, i < n ∧ listed.getD i false = false ∧ ∀ j, j < i → listed.getD j false = true := by
  intro n
  induction n with
  | zero => intro h; exact absurd rfl h
  | succ n ih =>
    intro h
    by_cases h0 : left n listed = 0
    · refine ⟨n, by omega, ?_, left_zero h0⟩
      have s : left (n + 1) listed = left n listed + if !listed.getD n false then 1 else 0 := by simp [left, List.range_succ, List.countP_append, List.countP_cons]
      rw [s, h0] at h
      cases hb : listed.getD n false with
      | false => rfl
      | true => rw [hb] at h; simp at h
    · obtain ⟨i, hi, h1, h2⟩ := ih h0
      exact ⟨i, by omega, h1, h2⟩

/-- of the first m operations: no guard; none looks at, or lays, slots p and q; each looks just at what those lay for which it waits; no two lay the same slot -/
def softB (ops : Array Oper) (m p q : Nat) : Bool :=
  (List.range m).all fun j => match ops[j]? with
    | none => false
    | some o => o.guard.isNone && (!(o.looksAt ops).contains p && (!(o.looksAt ops).contains q && (o.dst != some p && (o.dst != some q &&
        (List.range m).all fun i => match (ops[i]?).bind (·.dst) with
          | none => true
          | some d => (!(o.looksAt ops).contains d || (decide (i < j) && Region.waitsFor .any ops j i)) && (decide (i ≥ j) || o.dst != some d)))))

def backB (ops : Array Oper) (n : Nat) : Bool :=
  (List.range n).all fun j => match ops[j]? with
    | none => false
    | some o => o.after.all fun e => !Region.binds .any e || decide (e.on < j)

structure SoftOp (ops : Array Oper) (m p q j : Nat) (o : Oper) : Prop where
  guard : o.guard = none
  lp : p ∉ o.looksAt ops
  lq : q ∉ o.looksAt ops
  dp : o.dst ≠ some p
  dq : o.dst ≠ some q
  data : ∀ i x d, i < m → ops[i]? = some x → x.dst = some d → d ∈ o.looksAt ops → i < j ∧ Region.waitsFor .any ops j i = true
  ap : ∀ i x d, i < j → ops[i]? = some x → x.dst = some d → o.dst ≠ some d

theorem softB_spec {m p q j : Nat} {o : Oper} (h : softB ops m p q = true) (hj : j < m) (ho : ops[j]? = some o) : SoftOp ops m p q j o := by
  have h1 := List.all_eq_true.1 h j (List.mem_range.2 hj)
  rw [ho] at h1
  simp only [Bool.and_eq_true, Bool.not_eq_true', bne_iff_ne, ne_eq, Option.isNone_iff_eq_none] at h1
  obtain ⟨a1, a2, a3, a4, a5, a6⟩ := h1
  have key : ∀ i x d, i < m → ops[i]? = some x → x.dst = some d → ((!(o.looksAt ops).contains d || (decide (i < j) && Region.waitsFor .any ops j i)) && (decide (i ≥ j) || o.dst != some d)) = true := by
    intro i x d hi hx hd
    have := List.all_eq_true.1 a6 i (List.mem_range.2 hi)
    rw [hx] at this
    simpa [hd] using this
  refine ⟨a1, by simpa using a2, by simpa using a3, a4, a5, fun i x d hi hx hd hl => ?_, fun i x d hi hx hd => ?_⟩
  · have := key i x d hi hx hd
    simp only [Bool.and_eq_true, Bool.or_eq_true, Bool.not_eq_true', decide_eq_true_eq] at this
    rcases this.1 with h2 | h2
    · simp [hl] at h2
    · exact h2
  · have := key i x d (by omega) hx hd
    simp only [Bool.and_eq_true, Bool.or_eq_true, decide_eq_true_eq, bne_iff_ne, ne_eq] at this
    rcases this.2 with h2 | h2
    · omega
    · exact h2

theorem wanted_none {o : Oper} {y : Nat → Option Bool} (h : o.guard = none) : Region.wanted o y = true := by
  simp [Region.wanted, h]

/-- the frame while the region runs -/
def frameOf (pre : List Oper) (vs : List Value) (a : Act) (p q : Tmp) (listed : Array Bool) (kp kq : Option Nat) : Act :=
  putO q kq (putO p kp (putL (fun k => listed.getD k false) pre vs 0 a))

theorem wpAny_float {m p q g : Nat} {op oq : Oper} {Zp Zq : Obj} {W : World} {vs : List Value} {a : Act}
    (hsz : ops.size = m + 2 + g) (hg : 0 < g) (hsel : Region.noSelect ops = true) (hsoft : softB ops m p q = true) (hback : backB ops (m + 2) = true)
    (hsink : Region.sinkB .any ops (m + 2) = true) (hchain : Region.chainB .any ops (m + 2) = true)
    (hop : ops[m]? = some op) (hoq : ops[m + 1]? = some oq) (gp : op.guard = none) (gq : oq.guard = none) (dp : op.dst = some p) (dq : oq.dst = some q) (hpq : p ≠ q)
    (ap : ∀ e w, (execOp e op).run P w = .ok (.value (.pointer (some ⟨w.heap.size, 0, none⟩))) (w.alloc Zp))
    (aq : ∀ e w, (execOp e oq).run P w = .ok (.value (.pointer (some ⟨w.heap.size, 0, none⟩))) (w.alloc Zq))
    (hall : softAll P W (ops.toList.take m) vs a)
    (hfin : ∀ (k l : Nat) (w : World) (listed : Array Bool), FloatW W Zp Zq (some k) (some l) w → listed.size = ops.size → (∀ i, i < ops.size → listed.getD i false = decide (i < m + 2)) →
      wpAny P .any ops Q g listed (putO q (some l) (putO p (some k) (putL (fun _ => true) (ops.toList.take m) vs 0 a))) w) :
    ∀ (f : Nat) (listed : Array Bool) (kp kq : Option Nat) (w : World), left (m + 2) listed = f → HeadInv .any ops (m + 2) listed → listed.getD m false = kp.isSome → listed.getD (m + 1) false = kq.isSome →
      FloatW W Zp Zq kp kq w → wpAny P .any ops Q (f + g) listed (frameOf (ops.toList.take m) vs a p q listed kp kq) w := by
  have hlen : (ops.toList.take m).length = m := by simp; omega
  have hpre : ∀ r, r < m → (ops.toList.take m)[r]? = ops[r]? := fun r hr => by
    rw [List.getElem?_take_of_lt hr]; simp
  have hdst : ∀ o ∈ ops.toList.take m, ∃ j, j < m ∧ ops[j]? = some o := fun o ho => by
    obtain ⟨j, hj⟩ := List.mem_iff_getElem?.1 ho
    have hjm : j < m := by have := (List.getElem?_eq_some_iff.1 hj).1; omega
    exact ⟨j, hjm, (hpre j hjm).symm.trans hj⟩
  intro f
  induction f with
  | zero =>
    intro listed kp kq w hl inv hp hq hw
    have h1 := left_zero hl
    rw [h1 m (by omega)] at hp
    rw [h1 (m + 1) (by omega)] at hq
    obtain ⟨k, rfl⟩ := Option.isSome_iff_exists.1 hp.symm
    obtain ⟨l, rfl⟩ := Option.isSome_iff_exists.1 hq.symm
    rw [Nat.zero_add]
    have := hfin k l w listed hw inv.size (fun i hi => by
      rcases Nat.lt_or_ge i (m + 2) with h2 | h2
      · rw [h1 i h2]; simp [h2]
      · rw [getD_both (inv.tail i h2 hi)]; simp; omega)
    unfold frameOf
    rw [putL_congr (L' := fun _ => true) _ _ _ _ (fun i _ hi => h1 i (by omega))]
    exact this
  | succ f ih =>
    intro listed kp kq w hl inv hp hq hw
    rw [show f + 1 + g = (f + g) + 1 from by omega]
    obtain ⟨i0, hi0, hu0, hb0⟩ := left_some (m + 2) (by omega : left (m + 2) listed ≠ 0)
    have hu0' : listed.getD i0 true = false := getD_in (by rw [inv.size]; omega) hu0
    refine ⟨fun h0 => ?_, fun i hi => ?_⟩
    · exfalso
      have h1 := List.all_eq_true.1 hback i0 (List.mem_range.2 hi0)
      have hlt : i0 < ops.size := by omega
      rw [Array.getElem?_eq_getElem hlt] at h1
      have h2 : i0 ∈ Region.ready .any ops listed := by
        rw [mem_ready]
        refine ⟨hu0', ops[i0], Array.getElem?_eq_getElem hlt, fun e he hb => ?_⟩
        have := Array.all_eq_true_iff_forall_mem.1 h1 e he
        simp [hb] at this
        exact hb0 _ this
      rw [h0] at h2
      cases h2
    · have hin : i < m + 2 := by
        rcases Nat.lt_or_ge i (m + 2) with h | h
        · exact h
        · exact absurd hi (tail_waits hsink hchain (by omega) inv _ i0 rfl hi0 hu0' i h)
      obtain ⟨hun, o, ho, hafter⟩ := mem_ready.1 hi
      have hun' := getD_both hun
      have hisz : i < listed.size := by rw [inv.size]; omega
      have inv' := inv.set hi hin
      have hl' : left (m + 2) (listed.setIfInBounds i true) = f := by have := left_set hisz hun' (m + 2) hin; omega
      have hset : (listed.setIfInBounds i true).getD i false = true := by simp [hisz]
      unfold wpOp
      simp only [ho]
      rcases Nat.lt_or_ge i m with him | him
      · have so := softB_spec hsoft him ho
        rw [if_pos (wanted_none so.guard)]
        obtain ⟨v, hv, hs⟩ := softAll_at (ops.toList.take m) vs 0 a o hall ((hpre i him).trans ho)
        have heq : execOp (frameOf (ops.toList.take m) vs a p q listed kp kq).eval o = execOp (putL (fun k => decide (k < 0 + i)) (ops.toList.take m) vs 0 a).eval o := by
          refine execOp_congr o (fun cs b => Region.noSelect_spec hsel i o cs b ho) fun x hx => ?_
          cases x with
          | tmp t =>
            have hlook : t ∈ o.looksAt ops := List.mem_append_left _ (List.mem_filterMap.2 ⟨.tmp t, by simpa using hx, rfl⟩)
            unfold frameOf
            rw [putO_eval (fun e => by injection e with e; subst e; exact so.lq hlook), putO_eval (fun e => by injection e with e; subst e; exact so.lp hlook)]
            refine putL_eval _ _ _ _ _ rfl rfl fun r o' ho' hd => ?_
            have hrm : r < m := by have := (List.getElem?_eq_some_iff.1 ho').1; omega
            obtain ⟨h1, h2⟩ := so.data r o' t hrm ((hpre r hrm).symm.trans ho') hd hlook
            obtain ⟨oj, hoj, e, he, hb, hon⟩ := Region.waitsFor_spec h2
            have : oj = o := Option.some.inj (hoj.symm.trans ho)
            subst this
            have h3 := hafter e he hb
            rw [hon] at h3
            simp only [Nat.zero_add]
            rw [h3]; simp [h1]
          | _ => rfl
        have hs2 : soft P o (frameOf (ops.toList.take m) vs a p q listed kp kq).eval w v := by
          have := hs w hw.below
          unfold soft at *
          rwa [heq]
        refine .inl (wp_of_soft hs2 fun w' b' => ?_)
        have hfr : (frameOf (ops.toList.take m) vs a p q listed kp kq).put o.dst v = frameOf (ops.toList.take m) vs a p q (listed.setIfInBounds i true) kp kq := by
          unfold frameOf
          rw [putL_set (L := fun k => listed.getD k false) (L' := fun k => (listed.setIfInBounds i true).getD k false) (i := i) (ops.toList.take m) vs 0 a o v ((hpre i him).trans ho) hv ?_ ?_ ?_ ?_, putO_put so.dp, putO_put so.dq]
          · intro r s x y hx hy hrs d hd
            have hsm : s < m := by have := (List.getElem?_eq_some_iff.1 hy).1; omega
            exact (softB_spec hsoft hsm ((hpre s hsm).symm.trans hy)).ap r x d hrs ((hpre r (by omega)).symm.trans hx) hd
          · simpa using hun'
          · simpa using hset
          · intro k hk; exact getD_set_ne false (by omega)
        rw [hfr]
        exact ih _ kp kq w' hl' inv' (by rw [getD_set_ne false (by omega)]; exact hp) (by rw [getD_set_ne false (by omega)]; exact hq) (hw.next b')
      · have hcong : ∀ j, j ≥ m → putL (fun k => (listed.setIfInBounds j true).getD k false) (ops.toList.take m) vs 0 a = putL (fun k => listed.getD k false) (ops.toList.take m) vs 0 a := fun j hj =>
          putL_congr _ _ _ _ fun k _ hk => getD_set_ne false (by omega)
        rcases Nat.lt_or_ge i (m + 1) with h2 | h2
        · have : i = m := by omega
          subst this
          have : o = op := Option.some.inj (ho.symm.trans hop)
          subst this
          rw [hun'] at hp
          have hkp : kp = none := by
            cases kp with
            | none => rfl
            | some k => cases hp
          subst hkp
          rw [if_pos (wanted_none gp)]
          refine .inl ?_
          unfold Oper.wp
          rw [ap]
          simp only [Oper.upon]
          have hfr : (frameOf (ops.toList.take i) vs a p q listed none kq).put o.dst (.pointer (some ⟨w.heap.size, 0, none⟩)) = frameOf (ops.toList.take i) vs a p q (listed.setIfInBounds i true) (some w.heap.size) kq := by
            unfold frameOf
            rw [hcong i (Nat.le_refl _), dp]
            show _ = putO q kq ((putL _ _ _ _ _).put (some p) _)
            rw [putO_put (fun e => hpq (by injection e))]
            rfl
          rw [hfr]
          exact ih _ (some w.heap.size) kq _ hl' inv' (by rw [hset]; rfl) (by rw [getD_set_ne false (by omega)]; exact hq) hw.allocP
        · have : i = m + 1 := by omega
          subst this
          have : o = oq := Option.some.inj (ho.symm.trans hoq)
          subst this
          rw [hun'] at hq
          have hkq : kq = none := by
            cases kq with
            | none => rfl
            | some k => cases hq
          subst hkq
          rw [if_pos (wanted_none gq)]
          refine .inl ?_
          unfold Oper.wp
          rw [aq]
          simp only [Oper.upon]
          have hfr : (frameOf (ops.toList.take m) vs a p q listed kp none).put o.dst (.pointer (some ⟨w.heap.size, 0, none⟩)) = frameOf (ops.toList.take m) vs a p q (listed.setIfInBounds (m + 1) true) kp (some w.heap.size) := by
            unfold frameOf
            rw [hcong (m + 1) (by omega), dq]
            rfl
          rw [hfr]
          exact ih _ kp (some w.heap.size) _ hl' inv' (by rw [getD_set_ne false (by omega)]; exact hp) (by rw [hset]; rfl) hw.allocQ

/-- what has come up ahead of the last stores -/
def headListed (n g : Nat) : Array Bool := ((List.range (n + g)).map fun i => decide (i < n)).toArray

/-- **THE REGION**, its operations written out -/
theorem wp_region_float {id : Nat} {l : List Oper} {m p q g : Nat} {op oq : Oper} (Zp Zq : Obj) {W : World} (vs : List Value) {a : Act} (hm : P.follows .mixedOrders = true)
    (hsz : l.toArray.size = m + 2 + g) (hg : 0 < g) (hsel : Region.noSelect l.toArray = true) (hsoft : softB l.toArray m p q = true) (hback : backB l.toArray (m + 2) = true)
    (hsink : Region.sinkB .any l.toArray (m + 2) = true) (hchain : Region.chainB .any l.toArray (m + 2) = true)
    (hop : l[m]? = some op) (hoq : l[m + 1]? = some oq) (gp : op.guard = none) (gq : oq.guard = none) (dp : op.dst = some p) (dq : oq.dst = some q) (hpq : p ≠ q)
    (ap : ∀ e w, (execOp e op).run P w = .ok (.value (.pointer (some ⟨w.heap.size, 0, none⟩))) (w.alloc Zp))
    (aq : ∀ e w, (execOp e oq).run P w = .ok (.value (.pointer (some ⟨w.heap.size, 0, none⟩))) (w.alloc Zq))
    (hall : softAll P W (l.take m) vs a)
    (hfin : ∀ (k l' : Nat) (w : World), FloatW W Zp Zq (some k) (some l') w →
      wpAny P .any l.toArray Q g (headListed (m + 2) g) (putO q (some l') (putO p (some k) (putL (fun _ => true) (l.take m) vs 0 a))) w) :
    (Code.region id l.toArray true).wp P Q a W := by
  refine wp_region_any hm ?_
  have hf := wpAny_float (P := P) (ops := l.toArray) (Q := Q) (Zp := Zp) (Zq := Zq) (W := W) (vs := vs) (a := a) hsz hg hsel hsoft hback hsink hchain (by simpa using hop) (by simpa using hoq) gp gq dp dq hpq ap aq (by simpa using hall)
    (fun k l' w listed hw hs hL => by
      have e : listed = headListed (m + 2) g := by
        apply Array.ext
        · simp [headListed, hs, hsz]
        · intro i h1 h2
          have h3 := hL i (by omega)
          simp [h1] at h3
          simp [headListed, h3]
      rw [e]
      simpa using hfin k l' w hw)
    (m + 2) (Array.replicate l.toArray.size false) none none { W with drawn := W.drawn + 1 }
  rw [hsz]
  rw [hsz] at hf
  have hz : ∀ i, (Array.replicate (m + 2 + g) false).getD i false = false := fun i => getD_replicate_false _ _
  have hfr : frameOf (l.toArray.toList.take m) vs a p q (Array.replicate (m + 2 + g) false) none none = a := by
    unfold frameOf
    show putL _ _ _ _ _ = a
    exact putL_none _ _ _ _ fun i _ => hz i
  rw [hfr] at hf
  refine hf ?_ ?_ (hz _) (hz _) ⟨(Below.refl _ _).drew, (fun _ h => nomatch h), (fun _ h => nomatch h), (fun _ _ h => nomatch h)⟩
  · unfold left
    rw [List.countP_eq_length.2 (fun i _ => by rw [hz i]; rfl)]
    simp
  · refine ⟨by simp [hsz] , fun j oj _ h => ?_, fun t ht ht' => ?_⟩
    · rw [hz j] at h; cases h
    · have : t < m + 2 + g := by rw [← hsz]; exact ht'
      simp [this]

end
end Go.Proofs.Ytocmkmeikcejjaa
