import Derived.Test.YtlolfmoolgenpaaGreatPhase
namespace Go.Proofs.YtlolfmoolgenpaaGreat
open Go.RowKit
section
variable {P : Program} {ops : Array Oper} {Q : Exit -> Act -> World -> Prop} {R : World -> World -> Prop} {J : (Nat -> Option Value) -> Prop} {ks0 : List (Want R)}
def relyAllX (P : Program) (R : World -> World -> Prop) (J : (Nat -> Option Value) -> Prop) (ks0 : List (Want R)) (ops : Array Oper) (W : World) (K : Act -> World -> Prop) : Nat -> List Oper -> List (Want R) -> List (Nat × (World -> Prop)) -> List Value -> Act -> Prop
 | _,[],[],env,acc,a=>∀ w',R W w' -> factsAll w' env -> J (fun r=>acc[r]?) -> K a w'
 | i,o :: os,k :: ks,env,acc,a =>
  (∀ w' l,R W w' -> factsAt ops i w' env -> J l -> (∀ r,Region.waitsFor .any ops i r = true -> r < acc.length -> l r = acc[r]?) -> (∀ (r : Nat) (k' : Want R) (v : Value),ks0[r]? = some k' -> l r = some v -> k'.pred w' v) -> relyStep P R ops o a w' (fun w'' u=>k.pred w'' u /\ J (upd l i (some u)))) /\
  (match k with
   | .val c=>relyAllX P R J ks0 ops W K (i + 1) os ks env (acc ++ [c]) (a.put o.dst c)
   | .that φ _=>∀ v,relyAllX P R J ks0 ops W K (i + 1) os ks ((i,fun w=>φ w v) :: env) (acc ++ [v]) (a.put o.dst v))
 | _,_,_,_,_,_=>False
theorem relyAllX_length {W : World} {K : Act -> World -> Prop} : ∀ (os : List Oper) (ks : List (Want R)) (j : Nat) (env : List (Nat × (World -> Prop))) (acc : List Value) (a : Act),relyAllX P R J ks0 ops W K j os ks env acc a -> ks.length = os.length
 | [],[],_,_,_,_,_=>rfl
 | [],_ :: _,_,_,_,_,h=>by simp [relyAllX] at h
 | _ :: _,[],_,_,_,_,h=>by simp [relyAllX] at h
 | o :: os,k :: ks,j,env,acc,a,h=>by
  have h2:=h.2
  cases k with
  | val c=>simpa using relyAllX_length os ks (j + 1) _ _ _ h2
  | that φ st=>simpa using relyAllX_length os ks (j + 1) _ _ _ (h2 undef)
theorem relyAllX_at {W : World} {K : Act -> World -> Prop} {i : Nat} : ∀ (os : List Oper) (ks : List (Want R)) (vs : List Value) (j : Nat) (env : List (Nat × (World -> Prop))) (acc : List Value) (a : Act) (o : Oper) (k : Want R),
 relyAllX P R J ks0 ops W K j os ks env acc a -> os[i]? = some o -> ks[i]? = some k -> vs.length = os.length -> (∀ (r : Nat) (c : Value),ks[r]? = some (Want.val c) -> vs[r]? = some c) ->
 ∀ w',R W w' -> factsAt ops (j + i) w' env -> (∀ (r : Nat) (k' : Want R) (v : Value),r < i -> ks[r]? = some k' -> vs[r]? = some v -> Region.waitsFor .any ops (j + i) (j + r) = true -> k'.pred w' v) ->
 ∀ l,acc.length = j -> J l -> (∀ r,Region.waitsFor .any ops (j + i) r = true -> r < j + i -> l r = (acc ++ vs)[r]?) -> (∀ (r : Nat) (k' : Want R) (v : Value),ks0[r]? = some k' -> l r = some v -> k'.pred w' v) ->
 relyStep P R ops o (putL (fun q=>decide (q < j + i)) os vs j a) w' (fun w'' u=>k.pred w'' u /\ J (upd l (j + i) (some u))):=by
 induction i with
 | zero =>
  intro os ks vs j env acc a o k h ho hk hl hv w' hR hf hp l hal hJ hacc hpr
  match os,ks,ho,hk,h with
  | o' :: os,k' :: ks,ho,hk,h =>
   simp only [List.getElem?_cons_zero,Option.some.injEq] at ho hk
   subst ho hk
   rw [putL_none _ _ _ _ (fun q hq=>by simp;omega)]
   exact h.1 w' l hR hf hJ (fun r hr hlt=>by rw [hacc r hr (by omega),List.getElem?_append_left hlt]) hpr
 | succ i ih =>
  intro os ks vs j env acc a o k h ho hk hl hv w' hR hf hp l hal hJ hacc hpr
  match os,ks,vs,ho,hk,h,hl,hv,hp with
  | o' :: os,k' :: ks,v' :: vs,ho,hk,h,hl,hv,hp =>
   simp only [List.getElem?_cons_succ] at ho hk
   have hv' : ∀ (r : Nat) (c : Value),ks[r]? = some (Want.val c) -> vs[r]? = some c:=fun r c hc=>by simpa using hv (r + 1) c (by simpa using hc)
   have hp' : ∀ (r : Nat) (k' : Want R) (v : Value),r < i -> ks[r]? = some k' -> vs[r]? = some v -> Region.waitsFor .any ops (j + 1 + i) (j + 1 + r) = true -> k'.pred w' v:=fun r k2 v hr h1 h2 h3 =>
    hp (r + 1) k2 v (by omega) (by simpa using h1) (by simpa using h2) (by rwa [show j + (i + 1) = j + 1 + i from by omega,show j + (r + 1) = j + 1 + r from by omega])
   have e1 : j + (i + 1) = j + 1 + i:=by omega
   simp only [putL,show decide (j < j + (i + 1)) = true from by simp,if_true]
   rw [e1] at hf hacc ⊢
   have hacc' : ∀ r,Region.waitsFor .any ops (j + 1 + i) r = true -> r < j + 1 + i -> l r = (acc ++ [v'] ++ vs)[r]?:=fun r h1 h2=>by rw [hacc r h1 h2];simp
   have hal' : (acc ++ [v']).length = j + 1:=by simp [hal]
   have h2:=h.2
   cases k' with
   | val c =>
    have : v' = c:=by simpa using hv 0 c rfl
    subst this
    exact ih os ks vs (j + 1) env _ _ o k h2 ho hk (by simpa using hl) hv' w' hR hf hp' l hal' hJ hacc' hpr
   | that φ st =>
    refine ih os ks vs (j + 1) _ _ _ o k (h2 v') ho hk (by simpa using hl) hv' w' hR ⟨fun hwt=>?_,hf⟩ hp' l hal' hJ hacc' hpr
    exact hp 0 (.that φ st) v' (by omega) rfl rfl (by rwa [e1])
theorem relyAllX_end {W : World} {K : Act -> World -> Prop} : ∀ (os : List Oper) (ks : List (Want R)) (vs : List Value) (j : Nat) (env : List (Nat × (World -> Prop))) (acc : List Value) (a : Act),
 relyAllX P R J ks0 ops W K j os ks env acc a -> vs.length = os.length -> ∀ w',R W w' -> factsAll w' env -> (∀ (r : Nat) (k : Want R) (v : Value),ks[r]? = some k -> vs[r]? = some v -> k.pred w' v) -> J (fun r=>(acc ++ vs)[r]?) -> K (putL (fun _=>true) os vs j a) w'
 | [],[],[],_,_,_,_,h,_,w',hR,hf,_,hF=>by simpa [putL] using h w' hR hf (by simpa using hF)
 | [],[],_ :: _,_,_,_,_,_,hl,_,_,_,_,_=>by simp at hl
 | [],_ :: _,_,_,_,_,_,h,_,_,_,_,_,_=>by simp [relyAllX] at h
 | _ :: _,[],_,_,_,_,_,h,_,_,_,_,_,_=>by simp [relyAllX] at h
 | _ :: _,_ :: _,[],_,_,_,_,_,hl,_,_,_,_,_=>by simp at hl
 | o :: os,k :: ks,v :: vs,j,env,acc,a,h,hl,w',hR,hf,hp,hF=>by
  have hp' : ∀ (r : Nat) (k : Want R) (v : Value),ks[r]? = some k -> vs[r]? = some v -> k.pred w' v:=fun r k2 v2 h1 h2=>hp (r + 1) k2 v2 (by simpa using h1) (by simpa using h2)
  have h0:=hp 0 k v rfl rfl
  have h2:=h.2
  have hF' : J (fun r=>(acc ++ [v] ++ vs)[r]?):=by simpa using hF
  simp only [putL,if_true]
  cases k with
  | val c =>
   have : v = c:=h0
   subst this
   exact relyAllX_end os ks vs (j + 1) env _ _ h2 (by simpa using hl) w' hR hf hp' hF'
  | that φ st=>exact relyAllX_end os ks vs (j + 1) _ _ _ (h2 v) (by simpa using hl) w' hR ⟨h0,hf⟩ hp' hF'
theorem wpAny_relyX {m g : Nat} {W : World} {ks : List (Want R)} {a : Act} {K : Act -> World -> Prop} (hrefl : ∀ x,R x x) (htr : ∀ x y z,R x y -> R y z -> R x z)
 (hsz : ops.size = m + g) (hsel : Region.noSelect ops = true) (hB : relyB ops m = true) (hback : backB ops m = true)
 (htail : g = 0 \/ (Region.sinkB .any ops m = true /\ Region.chainB .any ops m = true))
 (hall : relyAllX P R J ks ops W K 0 (ops.toList.take m) ks [] [] a)
 (hK : ∀ (a' : Act) (w' : World) (listed : Array Bool),K a' w' -> listed.size = ops.size -> (∀ i,i < ops.size -> listed.getD i false = decide (i < m)) -> wpAny P .any ops Q g listed a' w') :
 ∀ (f : Nat) (listed : Array Bool) (vs : List Value) (w : World),left m listed = f -> HeadInv .any ops m listed -> vs.length = m -> (∀ (r : Nat) (c : Value),ks[r]? = some (Want.val c) -> vs[r]? = some c) ->
  (∀ (r : Nat) (k : Want R) (v : Value),ks[r]? = some k -> vs[r]? = some v -> listed.getD r false = true -> k.pred w v) -> J (fun r=>if listed.getD r false = true then vs[r]? else none) -> R W w ->
  wpAny P .any ops Q (f + g) listed (putL (fun k=>listed.getD k false) (ops.toList.take m) vs 0 a) w:=by
 have hlen : (ops.toList.take m).length = m:=by simp;omega
 have hks : ks.length = m:=by rw [relyAllX_length _ _ _ _ _ _ hall,hlen]
 have hpre : ∀ r,r < m -> (ops.toList.take m)[r]? = ops[r]?:=fun r hr=>by
  rw [List.getElem?_take_of_lt hr];simp
 intro f
 induction f with
 | zero =>
  intro listed vs w hl inv hvl hvc hp hg hw
  have h1:=left_zero hl
  rw [Nat.zero_add,putL_congr (L':=fun _=>true) _ _ _ _ (fun i _ hi=>h1 i (by omega))]
  have e : (fun r=>if listed.getD r false = true then vs[r]? else none) = fun r=>([] ++ vs)[r]?:=funext fun r=>by
   by_cases hr : r < m
   · rw [if_pos (h1 r hr)];rfl
   · simp [show vs[r]? = none from List.getElem?_eq_none (by omega)]
  have hge:=hg
  rw [e] at hge
  refine hK _ _ listed (relyAllX_end _ ks vs 0 [] [] a hall (by omega) w hw trivial (fun r k v hk hv=>hp r k v hk hv (h1 r (by have:=(List.getElem?_eq_some_iff.1 hk).1;omega))) hge) inv.size fun i hi=>?_
  · rcases Nat.lt_or_ge i m with h2 | h2
    · rw [h1 i h2];simp [h2]
    · rw [getD_both (inv.tail i h2 hi)];simp;omega
 | succ f ih =>
  intro listed vs w hl inv hvl hvc hp hg hw
  rw [show f + 1 + g = (f + g) + 1 from by omega]
  obtain ⟨i0,hi0,hu0,hb0⟩:=left_some m (by omega : left m listed ≠ 0)
  have hu0' : listed.getD i0 true = false:=getD_in (by rw [inv.size];omega) hu0
  refine ⟨fun h0=>?_,fun i hi=>?_⟩
  · exfalso
    have h1:=List.all_eq_true.1 hback i0 (List.mem_range.2 hi0)
    have hlt : i0 < ops.size:=by omega
    rw [Array.getElem?_eq_getElem hlt] at h1
    have h2 : i0 ∈ Region.ready .any ops listed:=by
     rw [mem_ready]
     refine ⟨hu0',ops[i0],Array.getElem?_eq_getElem hlt,fun e he hb=>?_⟩
     have:=Array.all_eq_true_iff_forall_mem.1 h1 e he
     simp [hb] at this
     exact hb0 _ this
    rw [h0] at h2
    cases h2
  · obtain ⟨hun,o,ho,hafter⟩:=mem_ready.1 hi
    have hin : i < m:=by
     rcases Nat.lt_or_ge i m with h | h
     · exact h
     · rcases htail with h0 | ⟨hsink,hchain⟩
       · have:=(Array.getElem?_eq_some_iff.1 ho).1;omega
       · have hlt:=(Array.getElem?_eq_some_iff.1 ho).1
         exact absurd hi (tail_waits hsink hchain (by omega) inv _ i0 rfl hi0 hu0' i h)
    have hun':=getD_both hun
    have hisz : i < listed.size:=by rw [inv.size];omega
    have inv':=inv.set hi hin
    have hl' : left m (listed.setIfInBounds i true) = f:=by have:=left_set hisz hun' m hin;omega
    have hset : (listed.setIfInBounds i true).getD i false = true:=by simp [hisz]
    have so:=relyB_spec hB hin ho
    obtain ⟨k,hk⟩ : ∃ k,ks[i]? = some k:=⟨ks[i],List.getElem?_eq_getElem (by omega)⟩
    have hwaits : ∀ r,Region.waitsFor .any ops i r = true -> listed.getD r false = true:=fun r hr=>by
     obtain ⟨oj,hoj,e,he,hb,hon⟩:=Region.waitsFor_spec hr
     have : oj = o:=Option.some.inj (hoj.symm.trans ho)
     subst this
     have h3:=hafter e he hb
     rwa [hon] at h3
    have hst:=relyAllX_at (i:=i) _ ks vs 0 [] [] a o k hall ((hpre i hin).trans ho) hk (by omega) hvc w hw trivial
     (fun r k' v _ h1 h2 h3=>hp r k' v h1 h2 (hwaits r (by simpa using h3))) (fun r=>if listed.getD r false = true then vs[r]? else none) rfl hg
     (fun r h1 _=>by rw [if_pos (hwaits r (by simpa using h1))];rfl) (fun r k' v h1 h2=>by
      by_cases hr : listed.getD r false = true
      · rw [if_pos hr] at h2;exact hp r k' v h1 h2 hr
      · rw [if_neg hr] at h2;cases h2)
    have hsame : ∀ t,t ∈ o.looksAt ops -> (putL (fun k=>listed.getD k false) (ops.toList.take m) vs 0 a).eval (.tmp t) = (putL (fun q=>decide (q < 0 + i)) (ops.toList.take m) vs 0 a).eval (.tmp t):=fun t hlook=>by
     refine putL_eval _ _ _ _ _ rfl rfl fun r o' ho' hd=>?_
     have hrm : r < m:=by have:=(List.getElem?_eq_some_iff.1 ho').1;omega
     obtain ⟨h1,h2⟩:=so.data r o' t hrm ((hpre r hrm).symm.trans ho') hd hlook
     simp only [Nat.zero_add]
     rw [hwaits r h2];simp [h1]
    have heq : execOp (putL (fun k=>listed.getD k false) (ops.toList.take m) vs 0 a).eval o = execOp (putL (fun q=>decide (q < 0 + i)) (ops.toList.take m) vs 0 a).eval o:=by
     refine execOp_congr o (fun cs b=>Region.noSelect_spec hsel i o cs b ho) fun x hx=>?_
     cases x with
     | tmp t=>exact hsame t (List.mem_append_left _ (List.mem_filterMap.2 ⟨.tmp t,by simpa using hx,rfl⟩))
     | _=>rfl
    have hwant:=wanted_same (ops:=ops) (o:=o) (a:=putL (fun k=>listed.getD k false) (ops.toList.take m) vs 0 a) (a':=putL (fun q=>decide (q < 0 + i)) (ops.toList.take m) vs 0 a) (by rw [putL_size,putL_size]) hsame
    -- what follows an operation's outcome
    have next : ∀ (u : Value) (w' : World),R w w' -> k.pred w' u /\ J (upd (fun r=>if listed.getD r false = true then vs[r]? else none) (0 + i) (some u)) -> wpAny P .any ops Q (f + g) (listed.setIfInBounds i true) ((putL (fun k=>listed.getD k false) (ops.toList.take m) vs 0 a).put o.dst u) w':=by
     intro u w' hR hku2
     obtain ⟨hku,hXu⟩:=hku2
     rw [Nat.zero_add] at hXu
     have hiv : i < vs.length:=by omega
     have hfr : (putL (fun k=>listed.getD k false) (ops.toList.take m) vs 0 a).put o.dst u = putL (fun k=>(listed.setIfInBounds i true).getD k false) (ops.toList.take m) (vs.set i u) 0 a:=by
      rw [putL_vals (L:=fun k=>listed.getD k false) (ops.toList.take m) vs (vs.set i u) 0 a (by simp) (fun r hr=>?_)]
      · rw [putL_set (L:=fun k=>listed.getD k false) (L':=fun k=>(listed.setIfInBounds i true).getD k false) (i:=i) (ops.toList.take m) (vs.set i u) 0 a o u ((hpre i hin).trans ho) (by simp [hiv]) ?_ ?_ ?_ ?_]
        · intro r s x y hx hy hrs d hd
          have hsm : s < m:=by have:=(List.getElem?_eq_some_iff.1 hy).1;omega
          exact (relyB_spec hB hsm ((hpre s hsm).symm.trans hy)).ap r x d hrs ((hpre r (by omega)).symm.trans hx) hd
        · simpa using hun'
        · simpa using hset
        · intro q hq;exact getD_set_ne false (by omega)
      · have : i ≠ r:=fun e=>by subst e;simp only [Nat.zero_add] at hr;rw [hun'] at hr;cases hr
        rw [List.getElem?_set_ne this]
     rw [hfr]
     refine ih _ (vs.set i u) w' hl' inv' (by simpa using hvl) (fun r c hc=>?_) (fun r k' v hk' hv hlr=>?_) ?_ (htr _ _ _ hw hR)
     · by_cases e : i = r
       · subst e
         rw [hk] at hc
         cases hc
         have : u = c:=hku
         subst this
         simp [hiv]
       · rw [List.getElem?_set_ne e];exact hvc r c hc
     · by_cases e : i = r
       · subst e
         rw [hk] at hk'
         cases hk'
         simp only [List.getElem?_set_self hiv,Option.some.injEq] at hv
         subst hv
         exact hku
       · rw [List.getElem?_set_ne e] at hv
         rw [getD_set_ne false e] at hlr
         exact k'.keeps hR (hp r k' v hk' hv hlr)
     · have e : (fun r=>if (listed.setIfInBounds i true).getD r false = true then (vs.set i u)[r]? else none) = upd (fun r=>if listed.getD r false = true then vs[r]? else none) i (some u):=funext fun r=>by
        by_cases e : r = i
        · subst e;rw [if_pos hset,upd_same,List.getElem?_set_self hiv]
        · rw [upd_other _ _ _ _ e,getD_set_ne false (fun h=>e h.symm),List.getElem?_set_ne (fun h=>e h.symm)]
       rw [e];exact hXu
    unfold wpOp
    simp only [ho]
    rcases hst with ⟨hwt,hup⟩ | ⟨hwt,hup⟩
    · rw [if_pos (hwant.trans hwt)]
      refine .inl ?_
      unfold Oper.wp
      rw [heq]
      generalize (execOp (putL (fun q=>decide (q < 0 + i)) (ops.toList.take m) vs 0 a).eval o).run P w = r at *
      cases r with
      | ok n w' =>
       cases n <;> simp only [relyUpon] at hup <;> simp only [Oper.upon]
       case value u=>exact next u w' hup.1 hup.2
       case skip=>exact next undef w' hup.1 hup.2
       case enter fn args=>exact hup.mono fun e w'' ⟨u,he,h1,h2⟩=>by subst he;exact next u w'' h1 h2
      | halt x w'=>simp only [relyUpon] at hup
    · rw [if_neg (by rw [hwant,hwt];simp)]
      exact next undef w (hrefl w) hup
theorem wpAny_relyX_start {m g : Nat} {W : World} {ks : List (Want R)} {a : Act} {K : Act -> World -> Prop} (hrefl : ∀ x,R x x) (htr : ∀ x y z,R x y -> R y z -> R x z)
 (hsz : ops.size = m + g) (hsel : Region.noSelect ops = true) (hB : relyB ops m = true) (hback : backB ops m = true)
 (htail : g = 0 \/ (Region.sinkB .any ops m = true /\ Region.chainB .any ops m = true))
 (hall : relyAllX P R J ks ops W K 0 (ops.toList.take m) ks [] [] a) (hJ0 : J (fun _=>none))
 (hK : ∀ (a' : Act) (w' : World) (listed : Array Bool),K a' w' -> listed.size = ops.size -> (∀ i,i < ops.size -> listed.getD i false = decide (i < m)) -> wpAny P .any ops Q g listed a' w') :
 wpAny P .any ops Q ops.size (Array.replicate ops.size false) a W:=by
 have hz : ∀ i,(Array.replicate ops.size false).getD i false = false:=fun i=>getD_replicate_false _ _
 have hlen : ks.length = m:=by
  rw [relyAllX_length _ _ _ _ _ _ hall];simp;omega
 have h:=wpAny_relyX (P:=P) (Q:=Q) hrefl htr hsz hsel hB hback htail hall hK m (Array.replicate ops.size false) (ks.map Want.guess) W ?_ ?_ (by simpa using hlen) (guess_val ks)
  (fun r k v _ _ h=>by rw [hz r] at h;cases h) (by simp only [hz];exact hJ0) (hrefl W)
 · rw [putL_none _ _ _ _ (fun i _=>hz i),<- hsz] at h
   exact h
 · unfold left
   rw [List.countP_eq_length.2 (fun i _=>by rw [hz i];rfl)]
   simp
 · refine ⟨by simp,fun j oj _ h=>?_,fun t ht ht'=>by simp [ht']⟩
   rw [hz j] at h;cases h
theorem wp_region_relyX_tail {id : Nat} {l : List Oper} {a : Act} {W : World} (R : World -> World -> Prop) (J : (Nat -> Option Value) -> Prop) (m : Nat) (ks : List (Want R)) (hm : P.follows .mixedOrders = true) (hrefl : ∀ x,R x x) (htr : ∀ x y z,R x y -> R y z -> R x z)
 (hlt : m <= l.length) (hsel : Region.noSelect l.toArray = true) (hB : relyB l.toArray m = true) (hback : backB l.toArray m = true)
 (hsink : Region.sinkB .any l.toArray m = true) (hchain : Region.chainB .any l.toArray m = true) (hseq : Region.seqB .any l.toArray (l.drop m).length m (headListed m (l.drop m).length) = true)
 (hJ0 : J (fun _=>none))
 (hall : relyAllX P R J ks l.toArray W.drew (fun a' w'=>wpList P l.toArray Q (l.drop m) a' w') 0 (l.take m) ks [] [] a) : (Code.region id l.toArray true).wp P Q a W:=by
 refine wp_region_any hm ?_
 have hsz : l.toArray.size = m + (l.drop m).length:=by simp;omega
 refine wpAny_relyX_start (P:=P) (ops:=l.toArray) (Q:=Q) (m:=m) (g:=(l.drop m).length) (W:=W.drew) (ks:=ks) (K:=fun a' w'=>wpList P l.toArray Q (l.drop m) a' w') hrefl htr hsz hsel hB hback (.inr ⟨hsink,hchain⟩) (by simpa using hall) hJ0 fun a' w' listed hk hs hL=>?_
 have e : listed = headListed m (l.drop m).length:=by
  apply Array.ext
  · rw [hs,hsz];simp [headListed]
  · intro i h1 h2
    have h3:=hL i (by omega)
    simp [h1] at h3
    simp [headListed,h3]
 rw [e]
 exact wpAny_of_seq (l.drop m) m _ a' w' (fun j=>by simp [List.getElem?_drop]) hseq hk
end
end Go.Proofs.YtlolfmoolgenpaaGreat
