import Derived.Test.YtpbghmeikcphnaaGreatPhaseTail
import Derived.Test.YtpbghmeikcphnaaGreatAbb
import Derived.Test.YtpbghmeikcphnaaGreatLstBegun
namespace Go.Proofs.YtpbghmeikcphnaaGreat
open Go.RowKit
section
theorem eval_put_ne {a : Act} {d : Option Tmp} {v : Value} {t : Tmp} (h : d ≠ some t) : (a.put d v).eval (.tmp t) = a.eval (.tmp t):=by
 cases d with
 | none=>rfl
 | some x =>
  have hx : x ≠ t:=fun e=>h (by rw [e])
  simp [Act.put,Act.eval,Array.getElem?_setIfInBounds_ne hx]
theorem eval_put_same {a : Act} {v : Value} {t : Tmp} (h : t < a.tmps.size) : (a.put (some t) v).eval (.tmp t) = v:=by
 simp [Act.put,Act.eval,h]
section
variable {P : Program} {ops : Array Oper} {Q : Exit -> Act -> World -> Prop} {R : World -> World -> Prop}
variable {G : World -> World -> Prop} {Φ : Nat -> World -> Prop} {ws : List Nat}
end
end
section
structure Ql (ds : List (Nat × Nat)) (li : Nat -> Bool) (a : Act) (w : World) : Prop where
 p : ∀ e,e ∈ ds -> li e.1 = true -> ∃ X,a.eval (.tmp e.2) = (pP X 0) /\ X < w.heap.size
 ne : ∀ e,e ∈ ds -> ∀ e',e' ∈ ds -> e.1 ≠ e'.1 -> li e.1 = true -> li e'.1 = true -> a.eval (.tmp e.2) ≠ a.eval (.tmp e'.2)
theorem Ql.keep {ds : List (Nat × Nat)} {li xI : Nat -> Bool} {a : Act} {w w' : World} (h : Ql ds li a w) {d : Option Tmp} {v : Value} (hd : ∀ e,e ∈ ds -> d ≠ some e.2) (hl : ∀ e,e ∈ ds -> xI e.1 = li e.1) (hs : w.heap.size <= w'.heap.size) : Ql ds xI (a.put d v) w':=by
 refine ⟨fun e he hi=>?_,fun e he e' he' hne h1 h2=>?_⟩
 · obtain ⟨X,ex,hX⟩:=h.p e he (by rw [<- hl e he];exact hi)
   exact ⟨X,by rw [eval_put_ne (hd e he)];exact ex,by omega⟩
 · rw [eval_put_ne (hd e he),eval_put_ne (hd e' he')]
   exact h.ne e he e' he' hne (by rw [<- hl e he];exact h1) (by rw [<- hl e' he'];exact h2)
theorem Ql.add {ds : List (Nat × Nat)} {li xI : Nat -> Bool} {a : Act} {w w' : World} (h : Ql ds li a w) {e0 : Nat × Nat} (hs : ∀ e,e ∈ ds -> e.1 = e0.1 -> e.2 = e0.2) (ho : ∀ e,e ∈ ds -> e.1 ≠ e0.1 -> e.2 ≠ e0.2) {d : Option Tmp} (hd : d = some e0.2) (ht : e0.2 < a.tmps.size) (hl : ∀ e,e ∈ ds -> e.1 ≠ e0.1 -> xI e.1 = li e.1) (hsz : w.heap.size < w'.heap.size) : Ql ds xI (a.put d (pP w.heap.size 0)) w':=by
 subst hd
 have ev:=eval_put_same (v:=(pP w.heap.size 0)) ht
 have eo : ∀ e,e ∈ ds -> e.1 ≠ e0.1 -> (a.put (some e0.2) (pP w.heap.size 0)).eval (.tmp e.2) = a.eval (.tmp e.2):=fun e he hne=>eval_put_ne (fun k=>ho e he hne (by simpa using k.symm))
 have far : ∀ e,e ∈ ds -> e.1 ≠ e0.1 -> xI e.1 = true -> a.eval (.tmp e.2) ≠ (pP w.heap.size 0):=fun e he hne hi k=>by
  obtain ⟨X,ex,hX⟩:=h.p e he (by rw [<- hl e he hne];exact hi)
  rw [ex] at k
  simp only [Value.pointer.injEq,Option.some.injEq,Addr.mk.injEq] at k
  omega
 refine ⟨fun e he hi=>?_,fun e he e' he' hne h1 h2=>?_⟩
 · by_cases c : e.1 = e0.1
   · exact ⟨_,by rw [hs e he c];exact ev,hsz⟩
   · obtain ⟨X,ex,hX⟩:=h.p e he (by rw [<- hl e he c];exact hi)
     exact ⟨X,by rw [eo e he c];exact ex,by omega⟩
 · by_cases c : e.1 = e0.1
   · have c' : e'.1 ≠ e0.1:=fun c'=>hne (c.trans c'.symm)
     rw [hs e he c,ev,eo e' he' c']
     exact Ne.symm (far e' he' c' h2)
   · by_cases c' : e'.1 = e0.1
     · rw [hs e' he' c',ev,eo e he c]
       exact far e he c h1
     · rw [eo e he c,eo e' he' c']
       exact h.ne e he e' he' hne (by rw [<- hl e he c];exact h1) (by rw [<- hl e' he' c'];exact h2)
def RZ (ops : Array Oper) (m : Nat) (ds : List (Nat × Nat)) : Bool :=
 ds.all (fun e=>decide (e.1 < m) && (match ops[e.1]? with
  | some o=>o.dst == some e.2 && o.guard.isNone
  | none=>false)) && ds.all (fun e=>ds.all (fun e'=>decide (e.1 = e'.1) == decide (e.2 = e'.2))) && (List.range m).all (fun i=>match ops[i]? with
  | some o=>ds.all (fun e=>decide (e.1 = i) || o.dst != some e.2)
  | none=>true)
theorem Rz {ops : Array Oper} {m : Nat} {ds : List (Nat × Nat)} (h : RZ ops m ds = true) {e : Nat × Nat} (he : e ∈ ds) : e.1 < m /\ ∀ o,ops[e.1]? = some o -> o.dst = some e.2 /\ o.guard = none:=by
 simp only [RZ,Bool.and_eq_true] at h
 have h1:=List.all_eq_true.1 h.1.1 e he
 simp only [Bool.and_eq_true,decide_eq_true_eq] at h1
 refine ⟨h1.1,fun o ho=>?_⟩
 have h2:=h1.2
 rw [ho] at h2
 simpa [Bool.and_eq_true] using h2
theorem Jg {ops : Array Oper} {m : Nat} {ds : List (Nat × Nat)} (h : RZ ops m ds = true) {e e' : Nat × Nat} (he : e ∈ ds) (he' : e' ∈ ds) : e.1 = e'.1 ↔ e.2 = e'.2:=by
 simp only [RZ,Bool.and_eq_true] at h
 have h1:=List.all_eq_true.1 (List.all_eq_true.1 h.1.2 e he) e' he'
 simpa using h1
theorem OL {ops : Array Oper} {m : Nat} {ds : List (Nat × Nat)} (h : RZ ops m ds = true) {i : Nat} {o : Oper} (hi : i < m) (ho : ops[i]? = some o) {e : Nat × Nat} (he : e ∈ ds) (hne : e.1 ≠ i) : o.dst ≠ some e.2:=by
 simp only [RZ,Bool.and_eq_true] at h
 have h1:=List.all_eq_true.1 h.2 i (List.mem_range.2 hi)
 rw [ho] at h1
 have h2:=List.all_eq_true.1 h1 e he
 simp only [Bool.or_eq_true,decide_eq_true_eq,bne_iff_ne] at h2
 exact h2.resolve_left hne
section
variable {P : Program} {ops : Array Oper} {Q : Exit -> Act -> World -> Prop} {R : World -> World -> Prop}
variable {G : World -> World -> Prop} {Φ : Nat -> World -> Prop} {ws : List Nat}
theorem OJ {m g : Nat} {ds : List (Nat × Nat)} {Z : Obj} {W : World} {ks : List (Want R)} {a : Act} {K : Act -> World -> Prop} (htr : ∀ x y z,R x y -> R y z -> R x z) (Jh : ∀ x y,G x y -> R x y) (TI : ∀ x y p,G x y -> Φ p x -> Φ p y)
 (hsz : ops.size = m + g) (htail : g = 0 \/ (Region.sinkB .any ops m = true /\ Region.chainB .any ops m = true)) (hsel : Region.noSelect ops = true)
 (hRs : ∀ x y,R x y -> x.heap.size <= y.heap.size) (hpq : RZ ops m ds = true) (hdp : ∀ e,e ∈ ds -> e.2 < a.tmps.size)
 (hop : ∀ e,e ∈ ds -> ∀ (o : Oper) ev w,ops[e.1]? = some o -> (execOp ev o).run P w = .ok (.value (pP w.heap.size 0)) (w.alloc Z)) (hB : Wy ops m = true) (hback : We ops m = true) (hfo : Yf ops ws = true) (hwm : ws.all (· < m) = true)
 (hall : Zr P R G Φ ws ops W K 0 (ops.toList.take m) ks [] a)
 (hK : ∀ (a' : Act) (w' : World) (listed : Array Bool),K a' w' -> (∀ e,e ∈ ds -> ∀ e',e' ∈ ds -> e.1 ≠ e'.1 -> a'.eval (.tmp e.2) ≠ a'.eval (.tmp e'.2)) -> listed.size = ops.size -> (∀ i,i < ops.size -> listed.getD i false = decide (i < m)) -> wpAny P .any ops Q g listed a' w') :
 ∀ (f : Nat) (listed : Array Bool) (vs : List Value) (w : World),left m listed = f -> HeadInv .any ops m listed -> vs.length = m -> (∀ (r : Nat) (c : Value),ks[r]? = some (Want.val c) -> vs[r]? = some c) ->
  (∀ (r : Nat) (k : Want R) (v : Value),ks[r]? = some k -> vs[r]? = some v -> listed.getD r false = true -> k.pred w v) -> R W w -> Φ (doneN ws listed) w -> Ql ds (fun k=>listed.getD k false) (Zy (fun k=>listed.getD k false) (ops.toList.take m) vs 0 a) w ->
  wpAny P .any ops Q (f + g) listed (Zy (fun k=>listed.getD k false) (ops.toList.take m) vs 0 a) w:=by
 have hlen : (ops.toList.take m).length = m:=by simp;omega
 have hks : ks.length = m:=by rw [Y5 _ _ _ _ _ hall,hlen]
 have hpre : ∀ r,r < m -> (ops.toList.take m)[r]? = ops[r]?:=fun r hr=>by
  rw [List.getElem?_take_of_lt hr];simp
 intro f
 induction f with
 | zero =>
  intro listed vs w hl inv hvl MO hp hw hΦ hpr
  have h1:=Wh hl
  have hne : ∀ e,e ∈ ds -> ∀ e',e' ∈ ds -> e.1 ≠ e'.1 -> (Zy (fun _=>true) (ops.toList.take m) vs 0 a).eval (.tmp e.2) ≠ (Zy (fun _=>true) (ops.toList.take m) vs 0 a).eval (.tmp e'.2):=fun e he e' he' hn=>by
   have:=hpr.ne e he e' he' hn (h1 _ (Rz hpq he).1) (h1 _ (Rz hpq he').1)
   rwa [XF (L':=fun _=>true) _ _ _ _ (fun i _ hi=>h1 i (by omega))] at this
  rw [Nat.zero_add,XF (L':=fun _=>true) _ _ _ _ (fun i _ hi=>h1 i (by omega))]
  have hdone : doneN ws listed = ws.length:=by
   unfold doneN
   rw [List.countP_eq_length]
   intro c hc
   exact h1 c (by simpa using List.all_eq_true.1 hwm c hc)
  rw [hdone] at hΦ
  refine hK _ _ listed (XT _ ks vs 0 [] a hall (by omega) w hw hΦ trivial fun r k v hk hv=>hp r k v hk hv (h1 r ?_)) hne inv.size fun i hi=>?_
  · have:=(List.getElem?_eq_some_iff.1 hk).1;omega
  · rcases Nat.lt_or_ge i m with h2 | h2
    · rw [h1 i h2];simp [h2]
    · rw [getD_both (inv.tail i h2 hi)];simp;omega
 | succ f ih =>
  intro listed vs w hl inv hvl MO hp hw hΦ hpr
  rw [show f + 1 + g = (f + g) + 1 from by omega]
  obtain ⟨i0,hi0,hu0,hb0⟩:=U2 m (by omega : left m listed ≠ 0)
  have Qm : listed.getD i0 true = false:=getD_in (by rw [inv.size];omega) hu0
  refine ⟨fun h0=>?_,fun i hi=>?_⟩
  · exfalso
    have h1:=List.all_eq_true.1 hback i0 (List.mem_range.2 hi0)
    have hlt : i0 < ops.size:=by omega
    rw [Array.getElem?_eq_getElem hlt] at h1
    have h2 : i0 ∈ Region.ready .any ops listed:=by
     rw [mem_ready]
     refine ⟨Qm,ops[i0],Array.getElem?_eq_getElem hlt,fun e he hb=>?_⟩
     have:=Array.all_eq_true_iff_forall_mem.1 h1 e he
     simp [hb] at this
     exact hb0 _ this
    rw [h0] at h2
    cases h2
  · obtain ⟨hun,o,ho,hafter⟩:=mem_ready.1 hi
    have hin : i < m:=by
     rcases Nat.lt_or_ge i m with h | h
     · exact h
     · rcases htail with h0 | ⟨Vb,WO⟩
       · have:=(Array.getElem?_eq_some_iff.1 ho).1;omega
       · have hlt:=(Array.getElem?_eq_some_iff.1 ho).1
         exact absurd hi (tail_waits Vb WO (by omega) inv _ i0 rfl hi0 Qm i h)
    have hun':=getD_both hun
    have hisz : i < listed.size:=by rw [inv.size];omega
    have J4:=inv.set hi hin
    have hl' : left m (listed.setIfInBounds i true) = f:=by have:=TW hisz hun' m hin;omega
    have hset : (listed.setIfInBounds i true).getD i false = true:=by simp [hisz]
    have so:=Yh hB hin ho
    obtain ⟨k,hk⟩ : ∃ k,ks[i]? = some k:=⟨ks[i],List.getElem?_eq_getElem (by omega)⟩
    have WQ : ∀ r,Region.waitsFor .any ops i r = true -> listed.getD r false = true:=fun r hr=>by
     obtain ⟨oj,hoj,e,he,hb,hon⟩:=Region.waitsFor_spec hr
     have : oj = o:=Option.some.inj (hoj.symm.trans ho)
     subst this
     have h3:=hafter e he hb
     rwa [hon] at h3
    have Vd:=Vf (i:=i) _ ks vs 0 [] a o k hall ((hpre i hin).trans ho) hk (by omega) MO w hw trivial
     (fun r k' v _ h1 h2 h3=>hp r k' v h1 h2 (WQ r (by simpa using h3)))
    rw [Nat.zero_add] at Vd
    -- what the operation does,whichever it is
    have hst : V6 P (fun x y=>R x y /\ Φ (doneN ws (listed.setIfInBounds i true)) y) ops o (Zy (fun q=>decide (q < i)) (ops.toList.take m) vs 0 a) w k.pred:=by
     have weak : ∀ {E : World -> World -> Prop} {E' : World -> World -> Prop} (φ : World -> Value -> Prop) (x : World) (r : Result Next),(∀ y,E x y -> E' x y) -> Zf P E x φ r -> Zf P E' x φ r:=by
      intro E E' φ x r hE h
      cases r with
      | ok n w' =>
       cases n <;> simp only [Zf] at h ⊢
       case value u=>exact ⟨hE _ h.1,h.2⟩
       case skip=>exact ⟨hE _ h.1,h.2⟩
       case enter fn args=>exact h.mono fun e w'' ⟨u,he,h1,h2⟩=>⟨u,he,hE _ h1,h2⟩
      | halt x w'=>simp only [Zf] at h
     cases MZ : YP ws i with
     | some p =>
      rw [MZ] at Vd
      have hd:=RD inv hfo hi MZ
      rw [hd] at hΦ
      rw [QJ inv hfo hi hin hisz MZ]
      rcases Vd hΦ with ⟨h1,h2⟩ | ⟨h1,h2,h3⟩
      · exact .inl ⟨h1,weak _ _ _ (fun y hy=>hy) h2⟩
      · exact .inr ⟨h1,h2,h3⟩
     | none =>
      rw [MZ] at Vd
      rw [SB MZ]
      rcases Vd with ⟨h1,h2⟩ | ⟨h1,h2,h3⟩
      · exact .inl ⟨h1,weak _ _ _ (fun y hy=>⟨Jh _ _ hy,TI _ _ _ hy hΦ⟩) h2⟩
      · exact .inr ⟨h1,⟨Jh _ _ h2,TI _ _ _ h2 hΦ⟩,h3⟩
    have hsame : ∀ t,t ∈ o.looksAt ops -> (Zy (fun k=>listed.getD k false) (ops.toList.take m) vs 0 a).eval (.tmp t) = (Zy (fun q=>decide (q < i)) (ops.toList.take m) vs 0 a).eval (.tmp t):=fun t hlook=>by
     refine Wi _ _ _ _ _ rfl rfl fun r o' ho' hd=>?_
     have hrm : r < m:=by have:=(List.getElem?_eq_some_iff.1 ho').1;omega
     obtain ⟨h1,h2⟩:=so.data r o' t hrm ((hpre r hrm).symm.trans ho') hd hlook
     simp only [Nat.zero_add]
     rw [WQ r h2];simp [h1]
    have heq : execOp (Zy (fun k=>listed.getD k false) (ops.toList.take m) vs 0 a).eval o = execOp (Zy (fun q=>decide (q < i)) (ops.toList.take m) vs 0 a).eval o:=by
     refine execOp_congr o (fun cs b=>Region.noSelect_spec hsel i o cs b ho) fun x hx=>?_
     cases x with
     | tmp t=>exact hsame t (List.mem_append_left _ (List.mem_filterMap.2 ⟨.tmp t,by simpa using hx,rfl⟩))
     | _=>rfl
    have hwant:=Wx (ops:=ops) (o:=o) (a:=Zy (fun k=>listed.getD k false) (ops.toList.take m) vs 0 a) (a':=Zy (fun q=>decide (q < i)) (ops.toList.take m) vs 0 a) (by rw [Yv,Yv]) hsame
    -- what follows an operation's outcome
    have next : ∀ (u : Value) (w' : World),(R w w' /\ Φ (doneN ws (listed.setIfInBounds i true)) w') -> k.pred w' u -> Ql ds (fun k=>(listed.setIfInBounds i true).getD k false) ((Zy (fun k=>listed.getD k false) (ops.toList.take m) vs 0 a).put o.dst u) w' -> wpAny P .any ops Q (f + g) (listed.setIfInBounds i true) ((Zy (fun k=>listed.getD k false) (ops.toList.take m) vs 0 a).put o.dst u) w':=by
     intro u w' MX Eb uZ
     have hR:=MX.1
     have J3 : i < vs.length:=by omega
     have hfr : (Zy (fun k=>listed.getD k false) (ops.toList.take m) vs 0 a).put o.dst u = Zy (fun k=>(listed.setIfInBounds i true).getD k false) (ops.toList.take m) (vs.set i u) 0 a:=by
      rw [V5 (L:=fun k=>listed.getD k false) (ops.toList.take m) vs (vs.set i u) 0 a (by simp) (fun r hr=>?_)]
      · rw [TY (L:=fun k=>listed.getD k false) (L':=fun k=>(listed.setIfInBounds i true).getD k false) (i:=i) (ops.toList.take m) (vs.set i u) 0 a o u ((hpre i hin).trans ho) (by simp [J3]) ?_ ?_ ?_ ?_]
        · intro r s x y hx hy hrs d hd
          have hsm : s < m:=by have:=(List.getElem?_eq_some_iff.1 hy).1;omega
          exact (Yh hB hsm ((hpre s hsm).symm.trans hy)).ap r x d hrs ((hpre r (by omega)).symm.trans hx) hd
        · simpa using hun'
        · simpa using hset
        · intro q hq;exact getD_set_ne false (by omega)
      · have : i ≠ r:=fun e=>by subst e;simp only [Nat.zero_add] at hr;rw [hun'] at hr;cases hr
        rw [List.getElem?_set_ne this]
     rw [hfr] at uZ ⊢
     refine ih _ (vs.set i u) w' hl' J4 (by simpa using hvl) (fun r c hc=>?_) (fun r k' v hk' hv hlr=>?_) (htr _ _ _ hw hR) MX.2 uZ
     · by_cases e : i = r
       · subst e
         rw [hk] at hc
         cases hc
         have : u = c:=Eb
         subst this
         simp [J3]
       · rw [List.getElem?_set_ne e];exact MO r c hc
     · by_cases e : i = r
       · subst e
         rw [hk] at hk'
         cases hk'
         simp only [List.getElem?_set_self J3,Option.some.injEq] at hv
         subst hv
         exact Eb
       · rw [List.getElem?_set_ne e] at hv
         rw [getD_set_ne false e] at hlr
         exact k'.keeps hR (hp r k' v hk' hv hlr)
    unfold wpOp
    simp only [ho]
    rcases hst with ⟨hwt,hup⟩ | ⟨hwt,hE,hup⟩
    · rw [if_pos (hwant.trans hwt)]
      refine .inl ?_
      unfold Oper.wp
      rw [heq]
      generalize hr : (execOp (Zy (fun q=>decide (q < i)) (ops.toList.take m) vs 0 a).eval o).run P w = r at *
      have hpn : ∀ u w',r = .ok (.value u) w' -> R w w' -> Ql ds (fun k=>(listed.setIfInBounds i true).getD k false) ((Zy (fun k=>listed.getD k false) (ops.toList.take m) vs 0 a).put o.dst u) w':=fun u w' ru hR=>by
       by_cases hm : ∃ e,e ∈ ds /\ e.1 = i
       · obtain ⟨e0,he0,hi0⟩:=hm
         subst hi0
         rw [hop e0 he0 o _ w ho] at hr
         rw [<- hr] at ru
         cases ru
         exact hpr.add (e0:=e0) (fun e he c=>(Jg hpq he he0).1 c) (fun e he c k=>c ((Jg hpq he he0).2 k)) ((Rz hpq he0).2 o ho).1 (by rw [Yv];exact hdp e0 he0) (fun e he c=>getD_set_ne false (Ne.symm c)) (by rw [Go.Deep.nblk_alloc];omega)
       · have hni : ∀ e,e ∈ ds -> e.1 ≠ i:=fun e he c=>hm ⟨e,he,c⟩
         exact hpr.keep (fun e he=>OL hpq hin ho he (hni e he)) (fun e he=>getD_set_ne false (Ne.symm (hni e he))) (hRs _ _ hR)
      have hpx : ∀ u w',(∀ e,e ∈ ds -> e.1 ≠ i) -> R w w' -> Ql ds (fun k=>(listed.setIfInBounds i true).getD k false) ((Zy (fun k=>listed.getD k false) (ops.toList.take m) vs 0 a).put o.dst u) w':=fun u w' hni hR =>
       hpr.keep (fun e he=>OL hpq hin ho he (hni e he)) (fun e he=>getD_set_ne false (Ne.symm (hni e he))) (hRs _ _ hR)
      have rq : ∀ {x : Next} {w'' : World},r = .ok x w'' -> (∀ u,x ≠ .value u) -> ∀ e,e ∈ ds -> e.1 ≠ i:=fun {x w''} hrx hx e0 he0 c=>by
       subst c
       rw [hop e0 he0 o _ w ho] at hr
       rw [<- hr] at hrx
       cases hrx
       exact hx _ rfl
      cases r with
      | ok n w' =>
       cases n <;> simp only [Zf] at hup <;> simp only [Oper.upon]
       case value u=>exact next u w' hup.1 hup.2 (hpn u w' rfl hup.1.1)
       case skip=>exact next undef w' hup.1 hup.2 (hpx _ _ (rq rfl (fun _ h=>by cases h)) hup.1.1)
       case enter fn args=>exact hup.mono fun e w'' ⟨u,he,h1,h2⟩=>by subst he;exact next u w'' h1 h2 (hpx _ _ (rq rfl (fun _ h=>by cases h)) h1.1)
      | halt x w'=>simp only [Zf] at hup
    · rw [if_neg (by rw [hwant,hwt];simp)]
      refine next undef w hE hup ?_
      have hg : o.guard = none -> False:=fun h=>by rw [NQ h] at hwt;cases hwt
      have hni : ∀ e,e ∈ ds -> e.1 ≠ i:=fun e he c=>hg (by subst c;exact ((Rz hpq he).2 o ho).2)
      exact hpr.keep (fun e he=>OL hpq hin ho he (hni e he)) (fun e he=>getD_set_ne false (Ne.symm (hni e he))) (Nat.le_refl _)
theorem Vr {id : Nat} {l : List Oper} {a : Act} {W : World} (R G : World -> World -> Prop) (Φ : Nat -> World -> Prop) (m : Nat) (ds : List (Nat × Nat)) (Z : Obj) (ws : List Nat) (ks : List (Want R)) (hm : P.follows .mixedOrders = true) (hrefl : ∀ x,R x x) (htr : ∀ x y z,R x y -> R y z -> R x z)
 (Jh : ∀ x y,G x y -> R x y) (TI : ∀ x y p,G x y -> Φ p x -> Φ p y) (hΦ : Φ 0 W.drew) (hlt : m <= l.length)
 (hRs : ∀ x y,R x y -> x.heap.size <= y.heap.size) (hpq : RZ l.toArray m ds = true) (hdp : ∀ e,e ∈ ds -> e.2 < a.tmps.size)
 (hop : ∀ e,e ∈ ds -> ∀ (o : Oper) ev w,l.toArray[e.1]? = some o -> (execOp ev o).run P w = .ok (.value (pP w.heap.size 0)) (w.alloc Z))
 (hsel : Region.noSelect l.toArray = true) (hB : Wy l.toArray m = true) (hback : We l.toArray m = true) (hfo : Yf l.toArray ws = true) (hwm : ws.all (· < m) = true)
 (Vb : Region.sinkB .any l.toArray m = true) (WO : Region.chainB .any l.toArray m = true) (hseq : Region.seqB .any l.toArray (l.drop m).length m (YZ m (l.drop m).length) = true)
 (hall : Zr P R G Φ ws l.toArray W.drew (fun a' w'=>(∀ e,e ∈ ds -> ∀ e',e' ∈ ds -> e.1 ≠ e'.1 -> a'.eval (.tmp e.2) ≠ a'.eval (.tmp e'.2)) -> wpList P l.toArray Q (l.drop m) a' w') 0 (l.take m) ks [] a) : (Code.region id l.toArray true).wp P Q a W:=by
 refine wp_region_any hm ?_
 have hz : ∀ i,(Array.replicate l.toArray.size false).getD i false = false:=fun i=>getD_replicate_false _ _
 have hsz : l.toArray.size = m + (l.drop m).length:=by simp;omega
 have hlen : ks.length = m:=by
  rw [Y5 _ _ _ _ _ hall];simp;omega
 have h:=OJ (P:=P) (ops:=l.toArray) (Q:=Q) (m:=m) (g:=(l.drop m).length) (W:=W.drew) (ks:=ks) (a:=a) (ds:=ds) (Z:=Z) (K:=fun a' w'=>(∀ e,e ∈ ds -> ∀ e',e' ∈ ds -> e.1 ≠ e'.1 -> a'.eval (.tmp e.2) ≠ a'.eval (.tmp e'.2)) -> wpList P l.toArray Q (l.drop m) a' w') htr Jh TI hsz (.inr ⟨Vb,WO⟩) hsel hRs hpq hdp hop hB hback hfo hwm (by simpa using hall) ?_ m (Array.replicate l.toArray.size false) (ks.map Want.PV) W.drew ?_ ?_ (by simpa using hlen) (UR ks)
  (fun r k v _ _ h=>by rw [hz r] at h;cases h) (hrefl _) ?_ ?_
 · rw [XG _ _ _ _ (fun i _=>hz i),<- hsz] at h
   exact h
 · intro a' w' listed hk hne hs hL
   have e : listed = YZ m (l.drop m).length:=by
    apply Array.ext
    · rw [hs,hsz];simp [YZ]
    · intro i h1 h2
      have h3:=hL i (by omega)
      simp [h1] at h3
      simp [YZ,h3]
   rw [e]
   exact wpAny_of_seq (l.drop m) m _ a' w' (fun j=>by simp [List.getElem?_drop]) hseq (hk hne)
 · unfold left
   rw [List.countP_eq_length.2 (fun i _=>by rw [hz i];rfl)]
   simp
 · refine ⟨by simp,fun j oj _ h=>?_,fun t ht ht'=>by simp at ht';simp [ht']⟩
   rw [hz j] at h;cases h
 · have : doneN ws (Array.replicate l.toArray.size false) = 0:=by
    unfold doneN
    rw [List.countP_eq_zero]
    intro c _
    rw [hz c];simp
   rw [this]
   exact hΦ
 · exact ⟨(fun e _ h=>by rw [hz] at h;cases h),(fun e _ e' _ _ h=>by rw [hz] at h;cases h)⟩
end
end
section
set_option maxRecDepth 20000
def Jp : Nat -> Int -> Prop
 | 0,_=>False
 | 1,x=>x = 5
 | 2,x=>x = 5
 | _,_=>False
def tZ : Nat -> Nat
 | 0=>1
 | _=>2
def VP (L : Loc) (p : Nat) (w : World) : Prop:=∃ s σ q pn h jb F u ts,Rest 4 8 L 0 12 (tZ p) w s σ q pn h jb 0 F u ts /\ h.H 0 = 65536 /\ σ <= 600 + p * 700 /\ ∀ x,0 <= x -> (u.S σ x ↔ Jp p x)
theorem Ut (L : Loc) (x y : World) (p : Nat) (g : Grown x y) (k : VP L p x) : VP L p y:=by
 obtain ⟨s,σ,q,pn,h,jb,F,u,ts,R,h1,h2,h3⟩:=k
 exact ⟨s,σ,q,pn,h,jb,F,u,ts,⟨R.mm.below g,R.vl,R.lc,R.nn,R.room,R.hJ,R.pn⟩,h1,h2,h3⟩
theorem Rest.e7 {n K Jm J : Nat} {L : Loc} {w : World} {s : Mm} {σ : Nat} {q : Q} {pn : Nat -> Int} {h : Gh} {jb : Nat -> Jb} {hd : Nat} {F : List Nat} {u : Hi} {ts : Nat -> Option (Cl × Option Rs)} {t : Nat} (R : Rest t n L K Jm J w s σ q pn h jb hd F u ts) (hK : K < 4) (hn : J + 3 < n) : q.F ≠ [] :=
 R.lc.m.slots hK (by rw [R.lc.n K R.nn];rfl) (by have:=R.hJ;omega)
theorem hi0 (σ : Nat) (x : Int) : tY.S σ x ↔ Jp 0 x:=Iff.rfl
theorem O0 {L : Loc} {w : World} {p : Nat} {kd v : Int} (k : VP L p w) (hp : p < 4) (hJ : tZ p + (if kd = 2 then 1 else 0) <= 2) (hk : kd = 1 \/ kd = 2 \/ kd = 3) (hv : (v = 1 /\ (Jp p 5 ↔ kd ≠ 2)) \/ (v = 0 /\ ¬ (Jp p 5 ↔ kd ≠ 2))) (hS : ∀ x,0 <= x -> ((if kd ≠ 1 /\ x = 5 then kd = 2 else Jp p x) ↔ Jp (p + 1) x)) :
 Calls Tryz.prog 11 #[.agg #[.int .i64 4,.int .i64 8,.int .i64 12,.int .i64 40,.int .i64 100,.int .i64 600,.int .i64 3,.pointer (some ⟨L.p,0,none⟩),.int .i64 0],.int .u64 65536,.int .i64 kd,.int .i64 5] w fun e w'=>∃ st : Int,e = .returned (.agg #[.int .i64 0,.int .u64 0,.int .i64 v,.int .i64 st]) /\ VP L (p + 1) w' /\ Only L.has w w':=by
 obtain ⟨s,σ,q,pn,h,jb,F,u,ts,R,h1,h2,h3⟩:=k
 refine (Bq (kd:=kd) (key:=5) R (EM (n:=8) (by decide) (by decide)) (by decide) (by have : tZ p <= 2:=(Nat.le_trans (Nat.le_add_right _ _) hJ);omega) (by decide) (by decide) (by decide) (by decide) (by omega) hk (by decide) (by decide) h1).mono ?_
 rintro e w' ⟨E,v',st,s',σ',q',Yz,h',La,F',u',ts',rfl,R',fin,-,hs,on,hH⟩
 have E0 : E = 0:=Classical.byContradiction fun hne=>R'.e7 (by decide) (by omega) (fin.no hne).2.2.2.1
 obtain ⟨f1,f2⟩:=fin.yes E0
 have e5:=h3 5 (by decide)
 have ev : v' = v:=by
  rw [e5] at f1
  rcases f1 with ⟨a,b⟩ | ⟨a,b⟩ <;> rcases hv with ⟨c,d⟩ | ⟨c,d⟩
  · omega
  · exact absurd b d
  · exact absurd d b
  · omega
 rw [E0,ev]
 refine ⟨st,rfl,⟨s',σ',q',Yz,h',La,F',u',ts',⟨R'.mm,R'.vl,R'.lc,R'.nn,R'.room,Nat.le_trans R'.hJ hJ,R'.pn⟩,hH,by omega,fun x hx=>?_⟩,on⟩
 rw [f2 x hx,<- hS x hx]
 by_cases c : kd ≠ 1 /\ x = 5
 · rw [if_pos c,if_pos c]
 · rw [if_neg c,if_neg c];exact h3 x hx
theorem yV {L : Loc} {w : World} (k : VP L 0 w) : Calls Tryz.prog 11 #[.agg #[.int .i64 4,.int .i64 8,.int .i64 12,.int .i64 40,.int .i64 100,.int .i64 600,.int .i64 3,.pointer (some ⟨L.p,0,none⟩),.int .i64 0],.int .u64 65536,.int .i64 2,.int .i64 5] w fun e w'=>∃ st : Int,e = .returned (.agg #[.int .i64 0,.int .u64 0,.int .i64 1,.int .i64 st]) /\ VP L 1 w' /\ Only L.has w w' :=
 O0 k (by decide) (by decide) (Or.inr (Or.inl rfl)) (Or.inl ⟨rfl,by simp [Jp]⟩) (fun x _=>by by_cases c : x = 5 <;> simp [Jp,c])
theorem yU {L : Loc} {w : World} (k : VP L 1 w) : Calls Tryz.prog 11 #[.agg #[.int .i64 4,.int .i64 8,.int .i64 12,.int .i64 40,.int .i64 100,.int .i64 600,.int .i64 3,.pointer (some ⟨L.p,0,none⟩),.int .i64 0],.int .u64 65536,.int .i64 1,.int .i64 5] w fun e w'=>∃ st : Int,e = .returned (.agg #[.int .i64 0,.int .u64 0,.int .i64 1,.int .i64 st]) /\ VP L 2 w' /\ Only L.has w w' :=
 O0 k (by decide) (by decide) (Or.inl rfl) (Or.inl ⟨rfl,by simp [Jp]⟩) (fun x _=>by simp [Jp])
theorem yT {L : Loc} {w : World} (k : VP L 2 w) : Calls Tryz.prog 11 #[.agg #[.int .i64 4,.int .i64 8,.int .i64 12,.int .i64 40,.int .i64 100,.int .i64 600,.int .i64 3,.pointer (some ⟨L.p,0,none⟩),.int .i64 0],.int .u64 65536,.int .i64 3,.int .i64 5] w fun e w'=>∃ st : Int,e = .returned (.agg #[.int .i64 0,.int .u64 0,.int .i64 1,.int .i64 st]) /\ VP L 3 w' /\ Only L.has w w' :=
 O0 k (by decide) (by decide) (Or.inr (Or.inr rfl)) (Or.inl ⟨rfl,by simp [Jp]⟩) (fun x _=>by by_cases c : x = 5 <;> simp [Jp,c])
theorem yS {L : Loc} {w : World} (k : VP L 3 w) : Calls Tryz.prog 11 #[.agg #[.int .i64 4,.int .i64 8,.int .i64 12,.int .i64 40,.int .i64 100,.int .i64 600,.int .i64 3,.pointer (some ⟨L.p,0,none⟩),.int .i64 0],.int .u64 65536,.int .i64 1,.int .i64 5] w fun e w'=>∃ st : Int,e = .returned (.agg #[.int .i64 0,.int .u64 0,.int .i64 0,.int .i64 st]) /\ VP L 4 w' /\ Only L.has w w' :=
 O0 k (by decide) (by decide) (Or.inl rfl) (Or.inr ⟨rfl,by simp [Jp]⟩) (fun x _=>by simp [Jp])
set_option maxRecDepth 20000 in
set_option maxHeartbeats 1000000 in
theorem NL (w : World) : Calls Tryz.prog 10 #[] w fun e w'=>e = .returned (.bool true) /\ Below w.heap.size w w':=by
 have bg:=fun w=>Hu (n:=8) (by decide) (by decide) w
 go_enter Tryz.func10,Tryz.ntmps10
 go_wp2_with (go_at_call 9;refine (bg _).mono ?_;rintro e w1 ⟨L,s,σ,F0,rfl,R0,b1,l1,hσ,-⟩)
 have k0 : VP L 0 w1:=⟨s,σ,_,_,_,_,_,_,_,R0 0 12 (by decide),vZ 4 8 12 40,by omega,fun x _=>hi0 σ x⟩
 clear R0 bg hσ
 refine ZW (fun W=>VP L 0 W /\ ZU W w1.heap.size 4 8 12 40 100 600 3 L.p 0 /\ Below w.heap.size w W /\ ¬ L.has w1.heap.size) ⟨Ut L _ _ 0 (ZY _ _) k0,ZU.new,Z7 b1 _,?_⟩ ?_
 · obtain ⟨s,σ,q,pn,h,jb,F,u,ts,R,-⟩:=k0
   exact RG R.mm (Nat.le_refl _)
 clear k0
 rintro W ⟨k1,v1,bW,vY⟩
 obtain ⟨Sz,hSz⟩ : ∃ Sz,W.heap.size = Sz:=⟨_,rfl⟩
 have SA : ∀ k,L.has k -> k < Sz:=fun k hk=>by obtain ⟨s,σ,q,pn,h,jb,F,u,ts,R,-⟩:=k1;have:=R.mm.lt k hk;omega
 have vV : ∀ (x1 y1 : World) (v : Value),Only L.has x1 y1 -> (∃ X,v = .pointer (some ⟨X,0,none⟩) /\ Sz <= X /\ At x1 X 0 37 #[.int .i64 0,.int .u64 0,.int .i64 0,.int .i64 0] [.int .i64 0,.int .u64 0,.int .i64 0,.int .i64 0]) -> ∃ X,v = .pointer (some ⟨X,0,none⟩) /\ Sz <= X /\ At y1 X 0 37 #[.int .i64 0,.int .u64 0,.int .i64 0,.int .i64 0] [.int .i64 0,.int .u64 0,.int .i64 0,.int .i64 0]:=by
  rintro x1 y1 v hg ⟨X,hv,hb,hr⟩
  exact ⟨X,hv,hb,hr.only hg (fun hh=>by have:=SA _ hh;omega)⟩
 refine Vr (Only L.has) Grown (VP L) 16 [(12,4),(13,5),(14,6),(15,7)] (.cells #[.int .i64 0,.int .u64 0,.int .i64 0,.int .i64 0] 37) [2,5,8,11] [.val (.agg #[.int .i64 4,.int .i64 8,.int .i64 12,.int .i64 40,.int .i64 100,.int .i64 600,.int .i64 3,.pointer (some ⟨L.p,0,none⟩),.int .i64 0]),.val (.int .u64 65536),.that (fun _ x=>∃ st : Int,x = .agg #[.int .i64 0,.int .u64 0,.int .i64 1,.int .i64 st]) (fun _ _ _ _ h=>h),.val (.agg #[.int .i64 4,.int .i64 8,.int .i64 12,.int .i64 40,.int .i64 100,.int .i64 600,.int .i64 3,.pointer (some ⟨L.p,0,none⟩),.int .i64 0]),.val (.int .u64 65536),.that (fun _ x=>∃ st : Int,x = .agg #[.int .i64 0,.int .u64 0,.int .i64 1,.int .i64 st]) (fun _ _ _ _ h=>h),.val (.agg #[.int .i64 4,.int .i64 8,.int .i64 12,.int .i64 40,.int .i64 100,.int .i64 600,.int .i64 3,.pointer (some ⟨L.p,0,none⟩),.int .i64 0]),.val (.int .u64 65536),.that (fun _ x=>∃ st : Int,x = .agg #[.int .i64 0,.int .u64 0,.int .i64 1,.int .i64 st]) (fun _ _ _ _ h=>h),.val (.agg #[.int .i64 4,.int .i64 8,.int .i64 12,.int .i64 40,.int .i64 100,.int .i64 600,.int .i64 3,.pointer (some ⟨L.p,0,none⟩),.int .i64 0]),.val (.int .u64 65536),.that (fun _ x=>∃ st : Int,x = .agg #[.int .i64 0,.int .u64 0,.int .i64 0,.int .i64 st]) (fun _ _ _ _ h=>h),.that (fun w' x=>∃ X,x = .pointer (some ⟨X,0,none⟩) /\ Sz <= X /\ At w' X 0 37 #[.int .i64 0,.int .u64 0,.int .i64 0,.int .i64 0] [.int .i64 0,.int .u64 0,.int .i64 0,.int .i64 0]) vV,.that (fun w' x=>∃ X,x = .pointer (some ⟨X,0,none⟩) /\ Sz <= X /\ At w' X 0 37 #[.int .i64 0,.int .u64 0,.int .i64 0,.int .i64 0] [.int .i64 0,.int .u64 0,.int .i64 0,.int .i64 0]) vV,.that (fun w' x=>∃ X,x = .pointer (some ⟨X,0,none⟩) /\ Sz <= X /\ At w' X 0 37 #[.int .i64 0,.int .u64 0,.int .i64 0,.int .i64 0] [.int .i64 0,.int .u64 0,.int .i64 0,.int .i64 0]) vV,.that (fun w' x=>∃ X,x = .pointer (some ⟨X,0,none⟩) /\ Sz <= X /\ At w' X 0 37 #[.int .i64 0,.int .u64 0,.int .i64 0,.int .i64 0] [.int .i64 0,.int .u64 0,.int .i64 0,.int .i64 0]) vV] (by kernel_rfl) (Only.refl _) (fun _ _ _ h k=>h.trans k) (fun x y h=>Only.ZZ h) (Ut L) (Ut L _ _ 0 ((Below.refl _ _).drew) k1) (by decide) (fun x y h=>h.size) (by kernel_rfl) (by simp) ?_ (by kernel_rfl) (by kernel_rfl) (by kernel_rfl) (by kernel_rfl) (by kernel_rfl) (by kernel_rfl) (by kernel_rfl) (by kernel_rfl) ?_
 · intro e he o ev w' ho
   simp only [List.mem_cons,List.not_mem_nil,or_false] at he
   rcases he with rfl | rfl | rfl | rfl <;>
    (simp only [List.getElem?_toArray,List.getElem?_cons_succ,List.getElem?_cons_zero,Option.some.injEq] at ho
     subst ho
     go_simp)
 simp only [List.take_succ_cons,List.take_zero,Zr,Act.put,List.setIfInBounds_toArray,List.set_cons_zero,List.set_cons_succ]
 refine ⟨?_,?_⟩
 · intro w' hR _
   apply ol
   obtain ⟨y0,y1,y2,y3,y4,y5,y6,y7,y8⟩:=(v1.grown ((Below.refl _ _).drew)).only hR vY
   go_simp
   exact gl
 refine ⟨?_,?_⟩
 · intros;apply ol;go_simp;exact gl
 refine ⟨?_,?_⟩
 · intro w' hR _ hP
   apply ol
   have hP : VP L 0 w':=hP
   go_simp
   refine (yV hP).mono ?_
   rintro e w'' ⟨st,rfl,h1,h2⟩
   exact ⟨_,rfl,⟨h2,h1⟩,st,rfl⟩
 intro x0
 refine ⟨?_,?_⟩
 · intro w' hR _
   apply ol
   obtain ⟨y0,y1,y2,y3,y4,y5,y6,y7,y8⟩:=(v1.grown ((Below.refl _ _).drew)).only hR vY
   go_simp
   exact gl
 refine ⟨?_,?_⟩
 · intros;apply ol;go_simp;exact gl
 refine ⟨?_,?_⟩
 · intro w' hR _ hP
   apply ol
   have hP : VP L 1 w':=hP
   go_simp
   refine (yU hP).mono ?_
   rintro e w'' ⟨st,rfl,h1,h2⟩
   exact ⟨_,rfl,⟨h2,h1⟩,st,rfl⟩
 intro x1
 refine ⟨?_,?_⟩
 · intro w' hR _
   apply ol
   obtain ⟨y0,y1,y2,y3,y4,y5,y6,y7,y8⟩:=(v1.grown ((Below.refl _ _).drew)).only hR vY
   go_simp
   exact gl
 refine ⟨?_,?_⟩
 · intros;apply ol;go_simp;exact gl
 refine ⟨?_,?_⟩
 · intro w' hR _ hP
   apply ol
   have hP : VP L 2 w':=hP
   go_simp
   refine (yT hP).mono ?_
   rintro e w'' ⟨st,rfl,h1,h2⟩
   exact ⟨_,rfl,⟨h2,h1⟩,st,rfl⟩
 intro x2
 refine ⟨?_,?_⟩
 · intro w' hR _
   apply ol
   obtain ⟨y0,y1,y2,y3,y4,y5,y6,y7,y8⟩:=(v1.grown ((Below.refl _ _).drew)).only hR vY
   go_simp
   exact gl
 refine ⟨?_,?_⟩
 · intros;apply ol;go_simp;exact gl
 refine ⟨?_,?_⟩
 · intro w' hR _ hP
   apply ol
   have hP : VP L 3 w':=hP
   go_simp
   refine (yS hP).mono ?_
   rintro e w'' ⟨st,rfl,h1,h2⟩
   exact ⟨_,rfl,⟨h2,h1⟩,st,rfl⟩
 intro x3
 refine ⟨?_,?_⟩
 · intro w' hR _
   apply ol
   go_simp
   exact ⟨ZY _ _,_,rfl,by have:=hR.size;rw [show W.drew.heap.size = W.heap.size from rfl] at this;omega,At.new w' 37 [.int .i64 0,.int .u64 0,.int .i64 0,.int .i64 0]⟩
 intro p0
 refine ⟨?_,?_⟩
 · intro w' hR _
   apply ol
   go_simp
   exact ⟨ZY _ _,_,rfl,by have:=hR.size;rw [show W.drew.heap.size = W.heap.size from rfl] at this;omega,At.new w' 37 [.int .i64 0,.int .u64 0,.int .i64 0,.int .i64 0]⟩
 intro p1
 refine ⟨?_,?_⟩
 · intro w' hR _
   apply ol
   go_simp
   exact ⟨ZY _ _,_,rfl,by have:=hR.size;rw [show W.drew.heap.size = W.heap.size from rfl] at this;omega,At.new w' 37 [.int .i64 0,.int .u64 0,.int .i64 0,.int .i64 0]⟩
 intro p2
 refine ⟨?_,?_⟩
 · intro w' hR _
   apply ol
   go_simp
   exact ⟨ZY _ _,_,rfl,by have:=hR.size;rw [show W.drew.heap.size = W.heap.size from rfl] at this;omega,At.new w' 37 [.int .i64 0,.int .u64 0,.int .i64 0,.int .i64 0]⟩
 intro p3
 intro w5 hR hP facts hne
 obtain ⟨⟨Xd,rfl,nY,ad⟩,⟨Xc,rfl,nX,ac⟩,⟨Xb,rfl,nV,ab⟩,⟨Xa,rfl,nU,aa⟩,⟨tX,rfl⟩,⟨st2,rfl⟩,⟨st1,rfl⟩,⟨st0,rfl⟩,-⟩:=facts
 have nab : Xa ≠ Xb:=fun e=>hne (12,4) (by simp) (13,5) (by simp) (by decide) (by subst e;simp [Act.eval])
 have nT : Xa ≠ Xc:=fun e=>hne (12,4) (by simp) (14,6) (by simp) (by decide) (by subst e;simp [Act.eval])
 have nR : Xa ≠ Xd:=fun e=>hne (12,4) (by simp) (15,7) (by simp) (by decide) (by subst e;simp [Act.eval])
 have nP : Xb ≠ Xa:=fun e=>hne (13,5) (by simp) (12,4) (by simp) (by decide) (by subst e;simp [Act.eval])
 have nO : Xb ≠ Xc:=fun e=>hne (13,5) (by simp) (14,6) (by simp) (by decide) (by subst e;simp [Act.eval])
 have nN : Xb ≠ Xd:=fun e=>hne (13,5) (by simp) (15,7) (by simp) (by decide) (by subst e;simp [Act.eval])
 have nM : Xc ≠ Xa:=fun e=>hne (14,6) (by simp) (12,4) (by simp) (by decide) (by subst e;simp [Act.eval])
 have nK : Xc ≠ Xb:=fun e=>hne (14,6) (by simp) (13,5) (by simp) (by decide) (by subst e;simp [Act.eval])
 have nJ : Xc ≠ Xd:=fun e=>hne (14,6) (by simp) (15,7) (by simp) (by decide) (by subst e;simp [Act.eval])
 have nH : Xd ≠ Xa:=fun e=>hne (15,7) (by simp) (12,4) (by simp) (by decide) (by subst e;simp [Act.eval])
 have nG : Xd ≠ Xb:=fun e=>hne (15,7) (by simp) (13,5) (by simp) (by decide) (by subst e;simp [Act.eval])
 have nD : Xd ≠ Xc:=fun e=>hne (15,7) (by simp) (14,6) (by simp) (by decide) (by subst e;simp [Act.eval])
 have nC:=aa.at0 0 rfl
 have ny:=aa.at0 1 rfl
 have ni:=aa.at0 2 rfl
 have mZ:=aa.at0 3 rfl
 have af:=aa.fz
 have bx0:=ab.at0 0 rfl
 have bx1:=ab.at0 1 rfl
 have mY:=ab.at0 2 rfl
 have mX:=ab.at0 3 rfl
 have bf:=ab.fz
 have mW:=ac.at0 0 rfl
 have mV:=ac.at0 1 rfl
 have mQ:=ac.at0 2 rfl
 have mP:=ac.at0 3 rfl
 have cf:=ac.fz
 have mO:=ad.at0 0 rfl
 have mM:=ad.at0 1 rfl
 have mJ:=ad.at0 2 rfl
 have mG:=ad.at0 3 rfl
 have df:=ad.fz
 have b5 : Below w.heap.size w w5:=NP (grow bW ((Below.refl _ _).drew)) hR l1
 have hwz : w.heap.size <= Sz:=by have:=bW.size;omega
 have ha' : w.heap.size <= Xa:=by omega
 have hb' : w.heap.size <= Xb:=by omega
 have hc' : w.heap.size <= Xc:=by omega
 have hd' : w.heap.size <= Xd:=by omega
 clear hP hR hne k1 v1 bW vY SA vV hSz
 go_wp2
 go_ret
 refine ⟨rfl,?_⟩
 exact Z5 (Z5 (Z5 (Z5 (Z5 (Z5 (Z5 (Z5 (Z5 (Z5 (Z5 (Z5 (Z5 (Z5 (Z5 (Z5 (b5) ha' _ _) ha' _ _) ha' _ _) ha' _ _) hb' _ _) hb' _ _) hb' _ _) hb' _ _) hc' _ _) hc' _ _) hc' _ _) hc' _ _) hd' _ _) hd' _ _) hd' _ _) hd' _ _
end
section
set_option maxRecDepth 20000 in
set_option maxHeartbeats 1000000 in
theorem Qr (nx : Int) (h0 : 0 <= nx) (h1 : nx <= 18446744073709551615) (g : Bool) (n : Int) (w : World) : Calls Tryz.prog 6 #[.agg #[.int .u64 nx,.bool g],.int .i64 n] w fun e w'=>e = .returned (.bool true) /\ Below w.heap.size w w':=by
 have e1 : bits .and .u64 nx 4294967295 = nx % 4294967296:=QY nx 32 h0 (by omega) (by decide)
 have e2 : bits .and .i64 n 8589934591 = n % 8589934592:=BD n 8589934591 33 (by decide) (by decide)
 have x0 : 0 <= nx % 4294967296:=by omega
 have x1 : nx % 4294967296 < 4294967296:=by omega
 have v0 : 0 <= n % 8589934592:=by omega
 have v1 : n % 8589934592 < 8589934592:=by omega
 generalize hx : nx % 4294967296 = x at e1 x0 x1
 generalize hv : n % 8589934592 = v at e2 v0 v1
 clear hx hv h0 h1
 have hp:=XA x x0 x1 g
 have hl2:=link_any v v0 v1
 have hp2:=XA (v % 4294967296) (by omega) (by omega) (Yi v)
 have e4 : (v % 4294967296 + if Yi v then 4294967296 else 0) = v:=by
  unfold Yi
  by_cases c : 4294967296 <= v
  · simp [c];omega
  · simp [c];omega
 rw [e4] at hp2
 have hy0 : 0 <= x + (if g then 4294967296 else 0) /\ x + (if g then 4294967296 else 0) < 8589934592:=by cases g <;> simp <;> omega
 have hl:=link_any _ hy0.1 hy0.2
 have e5 : (x + if g then 4294967296 else 0) % 4294967296 = x:=by cases g <;> simp <;> omega
 have e6 : Yi (x + if g then 4294967296 else 0) = g:=by
  unfold Yi
  cases g
  · simp;omega
  · simp;omega
 rw [e5,e6] at hl
 have hy : x + (if g then 4294967296 else 0) <= 1099511627775:=by omega
 generalize x + (if g then 4294967296 else 0) = y at hp hl hy
 generalize v % 4294967296 = vl at hl2 hp2
 generalize Yi v = g1 at hl2 hp2
 clear e4 e5 e6 hy0 x0 x1 v0 v1
 have xN:=At.new w 59 [.int .u64 x,.bool g]
 go_enter Tryz.func6,Tryz.ntmps6
 go_wp2
 refine ZW (fun W=>At W w.heap.size 0 59 #[.int .u64 x,.bool g] [.int .u64 x,.bool g] /\ Below w.heap.size w W) ⟨xN,ZY _ _⟩ ?_
 rintro W ⟨xW,bW⟩
 refine Zk Grown [.val (.bool true),.val (.bool true),.val (.agg #[.int .u64 x,.bool g]),.val (.int .i64 y),.val (.agg #[.int .u64 x,.bool g]),.val (.agg #[.int .u64 x,.bool g]),.val (.bool true),.val (.bool true),.val (.bool true),.val (.int .i64 v),.val (.agg #[.int .u64 vl,.bool g1]),.val (.int .i64 v),.val (.int .i64 v),.val (.bool true),.val (.bool true),.val (.bool true),.val (.agg #[.int .u64 x,.bool g]),.val (.int .i64 y),.val (.bool true),.val (.bool true),.val (.bool true)] (by kernel_rfl) Grown.refl Grown.trans (by kernel_rfl) (by kernel_rfl) (by kernel_rfl) ?_
 simp only [Zw,Act.put,List.setIfInBounds_toArray,List.set_cons_zero,List.set_cons_succ]
 refine ⟨?_,?_,?_,?_,?_,?_,?_,?_,?_,?_,?_,?_,?_,?_,?_,?_,?_,?_,?_,?_,?_,?_⟩
 · intro w' hg _
   apply ol
   go_simp
   refine (NL _).mono ?_
   rintro e w'' ⟨rfl,b9⟩
   exact ⟨_,rfl,b9,rfl⟩
 · intros;apply ol;go_simp;exact gl
 · intro w' hg _
   apply ol
   have hw:=xW.drew.grown hg
   have y0:=hw.at0 0 rfl
   have y1:=hw.at0 1 rfl
   go_simp
   exact gl
 · intro w' hg _
   apply ol
   go_simp
   refine (hp _).mono ?_
   rintro e w'' ⟨rfl,b9⟩
   exact ⟨_,rfl,b9,rfl⟩
 · intro w' hg _
   apply ol
   go_simp
   refine (hl _).mono ?_
   rintro e w'' ⟨rfl,b9⟩
   exact ⟨_,rfl,b9,rfl⟩
 · intro w' hg _
   apply ol
   have hw:=xW.drew.grown hg
   have y0:=hw.at0 0 rfl
   have y1:=hw.at0 1 rfl
   go_simp
   exact gl
 · intros;apply ol;go_simp;exact gl
 · intros;apply ol;go_simp;exact gl
 · intros;apply ol;go_simp;exact gl
 · intros;apply ol;go_simp;exact gl
 · intro w' hg _
   apply ol
   go_simp
   refine (hl2 _).mono ?_
   rintro e w'' ⟨rfl,b9⟩
   exact ⟨_,rfl,b9,rfl⟩
 · intro w' hg _
   apply ol
   go_simp
   refine (hp2 _).mono ?_
   rintro e w'' ⟨rfl,b9⟩
   exact ⟨_,rfl,b9,rfl⟩
 · intros;apply ol;go_simp;exact gl
 · intros;apply ol;go_simp;exact gl
 · intros;apply ol;go_simp;exact gl
 · intros;apply ol;go_simp;exact gl
 · intro w' hg _
   apply ol
   have hw:=xW.drew.grown hg
   have y0:=hw.at0 0 rfl
   have y1:=hw.at0 1 rfl
   go_simp
   exact gl
 · intro w' hg _
   apply ol
   go_simp
   refine (hp _).mono ?_
   rintro e w'' ⟨rfl,b9⟩
   exact ⟨_,rfl,b9,rfl⟩
 · intros;apply ol;go_simp;exact gl
 · intros;apply ol;go_simp;exact gl
 · intros;apply ol;go_simp;exact gl
 intro w5 hg _
 go_wp2
 go_ret
 exact ⟨rfl,grow (grow bW ((Below.refl _ _).drew)) hg⟩
end
end Go.Proofs.YtpbghmeikcphnaaGreat
