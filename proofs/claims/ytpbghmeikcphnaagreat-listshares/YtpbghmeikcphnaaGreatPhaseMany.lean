import Derived.Test.YtpbghmeikcphnaaGreatAbb
import Derived.Test.YtpbghmeikcphnaaGreatPhasePair
namespace Go.Proofs.YtpbghmeikcphnaaGreat
open Go.RowKit
structure PL (ds:List (Nat × Nat)) (li:Nat->Bool) (a:Act) (w:World):Prop where
 p:∀ e,e∈ds->li e.1=true->∃ X,a.eval (.tmp e.2)=(pP X 0)/\X<w.heap.size
 ne:∀ e,e∈ds->∀ e',e'∈ds->e.1≠e'.1->li e.1=true->li e'.1=true->a.eval (.tmp e.2)≠a.eval (.tmp e'.2)
theorem PL.keep {ds:List (Nat × Nat)} {li uo:Nat->Bool} {a:Act} {w w':World} (h:PL ds li a w) {d:Option Tmp} {v:Value} (hd:∀ e,e∈ds->d≠some e.2) (hl:∀ e,e∈ds->uo e.1=li e.1) (hs:w.heap.size<=w'.heap.size):PL ds uo (a.put d v) w':=by
 refine⟨fun e he hi=>?_,fun e he e' he' hne h1 h2=>?_⟩
 . obtain⟨X,ex,hX⟩:=h.p e he (by rw[<- hl e he];exact hi)
   exact⟨X,by rw[eval_put_ne (hd e he)];exact ex,by omega⟩
 . rw[eval_put_ne (hd e he),eval_put_ne (hd e' he')]
   exact h.ne e he e' he' hne (by rw[<- hl e he];exact h1) (by rw[<- hl e' he'];exact h2)
theorem PL.add {ds:List (Nat × Nat)} {li uo:Nat->Bool} {a:Act} {w w':World} (h:PL ds li a w) {e0:Nat × Nat} (hs:∀ e,e∈ds->e.1=e0.1->e.2=e0.2) (ho:∀ e,e∈ds->e.1≠e0.1->e.2≠e0.2) {d:Option Tmp} (hd:d=some e0.2) (ht:e0.2<a.tmps.size) (hl:∀ e,e∈ds->e.1≠e0.1->uo e.1=li e.1) (hsz:w.heap.size<w'.heap.size):PL ds uo (a.put d (pP w.heap.size 0)) w':=by
 subst hd
 have ev:=eval_put_same (v:=(pP w.heap.size 0)) ht
 have eo:∀ e,e∈ds->e.1≠e0.1->(a.put (some e0.2) (pP w.heap.size 0)).eval (.tmp e.2)=a.eval (.tmp e.2):=fun e he hne=>eval_put_ne (fun k=>ho e he hne (by simpa using k.symm))
 have far:∀ e,e∈ds->e.1≠e0.1->uo e.1=true->a.eval (.tmp e.2)≠(pP w.heap.size 0):=fun e he hne hi k=>by
  obtain⟨X,ex,hX⟩:=h.p e he (by rw[<- hl e he hne];exact hi)
  rw[ex] at k
  simp only[Value.pointer.injEq,Option.some.injEq,Addr.mk.injEq] at k
  omega
 refine⟨fun e he hi=>?_,fun e he e' he' hne h1 h2=>?_⟩
 . by_cases c:e.1=e0.1
   . exact⟨_,by rw[hs e he c];exact ev,hsz⟩
   . obtain⟨X,ex,hX⟩:=h.p e he (by rw[<- hl e he c];exact hi)
     exact⟨X,by rw[eo e he c];exact ex,by omega⟩
 . by_cases c:e.1=e0.1
   . have c':e'.1≠e0.1:=fun c'=>hne (c.trans c'.symm)
     rw[hs e he c,ev,eo e' he' c']
     exact Ne.symm (far e' he' c' h2)
   . by_cases c':e'.1=e0.1
     . rw[hs e' he' c',ev,eo e he c]
       exact far e he c h1
     . rw[eo e he c,eo e' he' c']
       exact h.ne e he e' he' hne (by rw[<- hl e he c];exact h1) (by rw[<- hl e' he' c'];exact h2)
def RH (ops:Array Oper) (m:Nat) (ds:List (Nat × Nat)):Bool :=
 ds.all (fun e=>decide (e.1<m) && (match ops[e.1]? with
  | some o=>o.dst == some e.2 && o.guard.isNone
  | none=>false)) && ds.all (fun e=>ds.all (fun e'=>decide (e.1=e'.1) == decide (e.2=e'.2))) && (List.range m).all (fun i=>match ops[i]? with
  | some o=>ds.all (fun e=>decide (e.1=i) || o.dst != some e.2)
  | none=>true)
theorem Q4 {ops:Array Oper} {m:Nat} {ds:List (Nat × Nat)} (h:RH ops m ds=true) {e:Nat × Nat} (he:e∈ds):e.1<m/\∀ o,ops[e.1]?=some o->o.dst=some e.2/\o.guard=none:=by
 simp only[RH,Bool.and_eq_true] at h
 have h1:=List.all_eq_true.1 h.1.1 e he
 simp only[Bool.and_eq_true,decide_eq_true_eq] at h1
 refine⟨h1.1,fun o ho=>?_⟩
 have h2:=h1.2
 rw[ho] at h2
 simpa [Bool.and_eq_true] using h2
theorem H8 {ops:Array Oper} {m:Nat} {ds:List (Nat × Nat)} (h:RH ops m ds=true) {e e':Nat × Nat} (he:e∈ds) (he':e'∈ds):e.1=e'.1↔e.2=e'.2:=by
 simp only[RH,Bool.and_eq_true] at h
 have h1:=List.all_eq_true.1 (List.all_eq_true.1 h.1.2 e he) e' he'
 simpa using h1
theorem NV {ops:Array Oper} {m:Nat} {ds:List (Nat × Nat)} (h:RH ops m ds=true) {i:Nat} {o:Oper} (hi:i<m) (ho:ops[i]?=some o) {e:Nat × Nat} (he:e∈ds) (hne:e.1≠i):o.dst≠some e.2:=by
 simp only[RH,Bool.and_eq_true] at h
 have h1:=List.all_eq_true.1 h.2 i (List.mem_range.2 hi)
 rw[ho] at h1
 have h2:=List.all_eq_true.1 h1 e he
 simp only[Bool.or_eq_true,decide_eq_true_eq,bne_iff_ne] at h2
 exact h2.resolve_left hne
section
variable {P:Program} {ops:Array Oper} {Q:Exit->Act->World->Prop} {R:World->World->Prop}
variable {G:World->World->Prop} {Φ:Nat->World->Prop} {ws:List Nat}
theorem NU {m g:Nat} {ds:List (Nat × Nat)} {Z:Obj} {W:World} {ks:List (Want R)} {a:Act} {K:Act->World->Prop} (htr:∀ x y z,R x y->R y z->R x z) (H9:∀ x y,G x y->R x y) (TA:∀ x y p,G x y->Φ p x->Φ p y)
 (hsz:ops.size=m+g) (htail:g=0\/(Region.sinkB .any ops m=true/\Region.chainB .any ops m=true)) (hsel:Region.noSelect ops=true)
 (hRs:∀ x y,R x y->x.heap.size<=y.heap.size) (hpq:RH ops m ds=true) (hdp:∀ e,e∈ds->e.2<a.tmps.size)
 (hop:∀ e,e∈ds->∀ (o:Oper) ev w,ops[e.1]?=some o->(execOp ev o).run P w=.ok (.value (pP w.heap.size 0)) (w.alloc Z)) (hB:WH ops m=true) (hback:Wl ops m=true) (hfo:Yl ops ws=true) (hwm:ws.all (·<m)=true)
 (hall:Zr P R G Φ ws ops W K 0 (ops.toList.take m) ks [] a)
 (hK:∀ (a':Act) (w':World) (listed:Array Bool),K a' w'->(∀ e,e∈ds->∀ e',e'∈ds->e.1≠e'.1->a'.eval (.tmp e.2)≠a'.eval (.tmp e'.2))->listed.size=ops.size->(∀ i,i<ops.size->listed.getD i false=decide (i<m))->wpAny P .any ops Q g listed a' w') :
 ∀ (f:Nat) (listed:Array Bool) (vs:List Value) (w:World),left m listed=f->HeadInv .any ops m listed->vs.length=m->(∀ (r:Nat) (c:Value),ks[r]?=some (Want.val c)->vs[r]?=some c) ->
  (∀ (r:Nat) (k:Want R) (v:Value),ks[r]?=some k->vs[r]?=some v->listed.getD r false=true->k.pred w v)->R W w->Φ (doneN ws listed) w->PL ds (fun k=>listed.getD k false) (Zz (fun k=>listed.getD k false) (ops.toList.take m) vs 0 a) w ->
  wpAny P .any ops Q (f+g) listed (Zz (fun k=>listed.getD k false) (ops.toList.take m) vs 0 a) w:=by
 have hlen:(ops.toList.take m).length=m:=by simp;omega
 have hks:ks.length=m:=by rw[Zc _ _ _ _ _ hall,hlen]
 have hpre:∀ r,r<m->(ops.toList.take m)[r]?=ops[r]?:=fun r hr=>by
  rw[List.getElem?_take_of_lt hr];simp
 intro f
 induction f with
 | zero =>
  intro listed vs w hl inv hvl KX hp hw hΦ hpr
  have h1:=Wn hl
  have hne:∀ e,e∈ds->∀ e',e'∈ds->e.1≠e'.1->(Zz (fun _=>true) (ops.toList.take m) vs 0 a).eval (.tmp e.2)≠(Zz (fun _=>true) (ops.toList.take m) vs 0 a).eval (.tmp e'.2):=fun e he e' he' hn=>by
   have:=hpr.ne e he e' he' hn (h1 _ (Q4 hpq he).1) (h1 _ (Q4 hpq he').1)
   rwa [XL (L':=fun _=>true) _ _ _ _ (fun i _ hi=>h1 i (by omega))] at this
  rw[Nat.zero_add,XL (L':=fun _=>true) _ _ _ _ (fun i _ hi=>h1 i (by omega))]
  have hdone:doneN ws listed=ws.length:=by
   unfold doneN
   rw[List.countP_eq_length]
   intro c hc
   exact h1 c (by simpa using List.all_eq_true.1 hwm c hc)
  rw[hdone] at hΦ
  refine hK _ _ listed (X0 _ ks vs 0 [] a hall (by omega) w hw hΦ trivial fun r k v hk hv=>hp r k v hk hv (h1 r ?_)) hne inv.size fun i hi=>?_
  . have:=(List.getElem?_eq_some_iff.1 hk).1;omega
  . rcases Nat.lt_or_ge i m with h2 | h2
    . rw[h1 i h2];simp[h2]
    . rw[getD_both (inv.tail i h2 hi)];simp;omega
 | succ f ih =>
  intro listed vs w hl inv hvl KX hp hw hΦ hpr
  rw[show f+1+g=(f+g)+1 from by omega]
  obtain⟨i0,hi0,hu0,hb0⟩:=UO m (by omega:left m listed≠0)
  have PM:listed.getD i0 true=false:=getD_in (by rw[inv.size];omega) hu0
  refine⟨fun h0=>?_,fun i hi=>?_⟩
  . exfalso
    have h1:=List.all_eq_true.1 hback i0 (List.mem_range.2 hi0)
    have hlt:i0<ops.size:=by omega
    rw[Array.getElem?_eq_getElem hlt] at h1
    have h2:i0∈Region.ready .any ops listed:=by
     rw[mem_ready]
     refine⟨PM,ops[i0],Array.getElem?_eq_getElem hlt,fun e he hb=>?_⟩
     have:=Array.all_eq_true_iff_forall_mem.1 h1 e he
     simp[hb] at this
     exact hb0 _ this
    rw[h0] at h2
    cases h2
  . obtain⟨hun,o,ho,hafter⟩:=mem_ready.1 hi
    have hin:i<m:=by
     rcases Nat.lt_or_ge i m with h | h
     . exact h
     . rcases htail with h0 | ⟨U1,WU⟩
       . have:=(Array.getElem?_eq_some_iff.1 ho).1;omega
       . have hlt:=(Array.getElem?_eq_some_iff.1 ho).1
         exact absurd hi (tail_waits U1 WU (by omega) inv _ i0 rfl hi0 PM i h)
    have hun':=getD_both hun
    have hisz:i<listed.size:=by rw[inv.size];omega
    have Ja:=inv.set hi hin
    have hl':left m (listed.setIfInBounds i true)=f:=by have:=TP hisz hun' m hin;omega
    have hset:(listed.setIfInBounds i true).getD i false=true:=by simp[hisz]
    have so:=Yp hB hin ho
    obtain⟨k,hk⟩:∃ k,ks[i]?=some k:=⟨ks[i],List.getElem?_eq_getElem (by omega)⟩
    have WV:∀ r,Region.waitsFor .any ops i r=true->listed.getD r false=true:=fun r hr=>by
     obtain⟨oj,hoj,e,he,hb,hon⟩:=Region.waitsFor_spec hr
     have:oj=o:=Option.some.inj (hoj.symm.trans ho)
     subst this
     have h3:=hafter e he hb
     rwa [hon] at h3
    have U2:=U4 (i:=i) _ ks vs 0 [] a o k hall ((hpre i hin).trans ho) hk (by omega) KX w hw trivial
     (fun r k' v _ h1 h2 h3=>hp r k' v h1 h2 (WV r (by simpa using h3)))
    rw[Nat.zero_add] at U2
    -- what the operation does,whichever it is
    have hst:V7 P (fun x y=>R x y/\Φ (doneN ws (listed.setIfInBounds i true)) y) ops o (Zz (fun q=>decide (q<i)) (ops.toList.take m) vs 0 a) w k.pred:=by
     have weak:∀ {E:World->World->Prop} {E':World->World->Prop} (φ:World->Value->Prop) (x:World) (r:Result Next),(∀ y,E x y->E' x y)->Zk P E x φ r->Zk P E' x φ r:=by
      intro E E' φ x r hE h
      cases r with
      | ok n w' =>
       cases n <;> simp only[Zk] at h ⊢
       case value u=>exact⟨hE _ h.1,h.2⟩
       case skip=>exact⟨hE _ h.1,h.2⟩
       case enter fn args=>exact h.mono fun e w'' ⟨u,he,h1,h2⟩=>⟨u,he,hE _ h1,h2⟩
      | halt x w'=>simp only[Zk] at h
     cases Lp:YT ws i with
     | some p =>
      rw[Lp] at U2
      have hd:=Q5 inv hfo hi Lp
      rw[hd] at hΦ
      rw[Qc inv hfo hi hin hisz Lp]
      rcases U2 hΦ with⟨h1,h2⟩ | ⟨h1,h2,h3⟩
      . exact .inl ⟨h1,weak _ _ _ (fun y hy=>hy) h2⟩
      . exact .inr ⟨h1,h2,h3⟩
     | none =>
      rw[Lp] at U2
      rw[RY Lp]
      rcases U2 with⟨h1,h2⟩ | ⟨h1,h2,h3⟩
      . exact .inl ⟨h1,weak _ _ _ (fun y hy=>⟨H9 _ _ hy,TA _ _ _ hy hΦ⟩) h2⟩
      . exact .inr ⟨h1,⟨H9 _ _ h2,TA _ _ _ h2 hΦ⟩,h3⟩
    have hsame:∀ t,t∈o.looksAt ops->(Zz (fun k=>listed.getD k false) (ops.toList.take m) vs 0 a).eval (.tmp t)=(Zz (fun q=>decide (q<i)) (ops.toList.take m) vs 0 a).eval (.tmp t):=fun t hlook=>by
     refine Wp _ _ _ _ _ rfl rfl fun r o' ho' hd=>?_
     have hrm:r<m:=by have:=(List.getElem?_eq_some_iff.1 ho').1;omega
     obtain⟨h1,h2⟩:=so.data r o' t hrm ((hpre r hrm).symm.trans ho') hd hlook
     simp only[Nat.zero_add]
     rw[WV r h2];simp[h1]
    have heq:execOp (Zz (fun k=>listed.getD k false) (ops.toList.take m) vs 0 a).eval o=execOp (Zz (fun q=>decide (q<i)) (ops.toList.take m) vs 0 a).eval o:=by
     refine execOp_congr o (fun cs b=>Region.noSelect_spec hsel i o cs b ho) fun x hx=>?_
     cases x with
     | tmp t=>exact hsame t (List.mem_append_left _ (List.mem_filterMap.2 ⟨.tmp t,by simpa using hx,rfl⟩))
     | _=>rfl
    have hwant:=WG (ops:=ops) (o:=o) (a:=Zz (fun k=>listed.getD k false) (ops.toList.take m) vs 0 a) (a':=Zz (fun q=>decide (q<i)) (ops.toList.take m) vs 0 a) (by rw[YA,YA]) hsame
    -- what follows an operation's outcome
    have next:∀ (u:Value) (w':World),(R w w'/\Φ (doneN ws (listed.setIfInBounds i true)) w')->k.pred w' u->PL ds (fun k=>(listed.setIfInBounds i true).getD k false) ((Zz (fun k=>listed.getD k false) (ops.toList.take m) vs 0 a).put o.dst u) w'->wpAny P .any ops Q (f+g) (listed.setIfInBounds i true) ((Zz (fun k=>listed.getD k false) (ops.toList.take m) vs 0 a).put o.dst u) w':=by
     intro u w' Lm CB pK
     have hR:=Lm.1
     have I9:i<vs.length:=by omega
     have hfr:(Zz (fun k=>listed.getD k false) (ops.toList.take m) vs 0 a).put o.dst u=Zz (fun k=>(listed.setIfInBounds i true).getD k false) (ops.toList.take m) (vs.set i u) 0 a:=by
      rw[V6 (L:=fun k=>listed.getD k false) (ops.toList.take m) vs (vs.set i u) 0 a (by simp) (fun r hr=>?_)]
      . rw[TQ (L:=fun k=>listed.getD k false) (L':=fun k=>(listed.setIfInBounds i true).getD k false) (i:=i) (ops.toList.take m) (vs.set i u) 0 a o u ((hpre i hin).trans ho) (by simp[I9]) ?_ ?_ ?_ ?_]
        . intro r s x y hx hy hrs d hd
          have hsm:s<m:=by have:=(List.getElem?_eq_some_iff.1 hy).1;omega
          exact(Yp hB hsm ((hpre s hsm).symm.trans hy)).ap r x d hrs ((hpre r (by omega)).symm.trans hx) hd
        . simpa using hun'
        . simpa using hset
        . intro q hq;exact getD_set_ne false (by omega)
      . have:i≠r:=fun e=>by subst e;simp only[Nat.zero_add] at hr;rw[hun'] at hr;cases hr
        rw[List.getElem?_set_ne this]
     rw[hfr] at pK ⊢
     refine ih _ (vs.set i u) w' hl' Ja (by simpa using hvl) (fun r c hc=>?_) (fun r k' v hk' hv hlr=>?_) (htr _ _ _ hw hR) Lm.2 pK
     . by_cases e:i=r
       . subst e
         rw[hk] at hc
         cases hc
         have:u=c:=CB
         subst this
         simp[I9]
       . rw[List.getElem?_set_ne e];exact KX r c hc
     . by_cases e:i=r
       . subst e
         rw[hk] at hk'
         cases hk'
         simp only[List.getElem?_set_self I9,Option.some.injEq] at hv
         subst hv
         exact CB
       . rw[List.getElem?_set_ne e] at hv
         rw[getD_set_ne false e] at hlr
         exact k'.keeps hR (hp r k' v hk' hv hlr)
    unfold wpOp
    simp only[ho]
    rcases hst with⟨hwt,hup⟩ | ⟨hwt,hE,hup⟩
    . rw[if_pos (hwant.trans hwt)]
      refine .inl ?_
      unfold Oper.wp
      rw[heq]
      generalize hr:(execOp (Zz (fun q=>decide (q<i)) (ops.toList.take m) vs 0 a).eval o).run P w=r at *
      have hpn:∀ u w',r=.ok (.value u) w'->R w w'->PL ds (fun k=>(listed.setIfInBounds i true).getD k false) ((Zz (fun k=>listed.getD k false) (ops.toList.take m) vs 0 a).put o.dst u) w':=fun u w' iG hR=>by
       by_cases hm:∃ e,e∈ds/\e.1=i
       . obtain⟨e0,he0,hi0⟩:=hm
         subst hi0
         rw[hop e0 he0 o _ w ho] at hr
         rw[<- hr] at iG
         cases iG
         exact hpr.add (e0:=e0) (fun e he c=>(H8 hpq he he0).1 c) (fun e he c k=>c ((H8 hpq he he0).2 k)) ((Q4 hpq he0).2 o ho).1 (by rw[YA];exact hdp e0 he0) (fun e he c=>getD_set_ne false (Ne.symm c)) (by rw[Go.Deep.nblk_alloc];omega)
       . have hni:∀ e,e∈ds->e.1≠i:=fun e he c=>hm ⟨e,he,c⟩
         exact hpr.keep (fun e he=>NV hpq hin ho he (hni e he)) (fun e he=>getD_set_ne false (Ne.symm (hni e he))) (hRs _ _ hR)
      have hpx:∀ u w',(∀ e,e∈ds->e.1≠i)->R w w'->PL ds (fun k=>(listed.setIfInBounds i true).getD k false) ((Zz (fun k=>listed.getD k false) (ops.toList.take m) vs 0 a).put o.dst u) w':=fun u w' hni hR =>
       hpr.keep (fun e he=>NV hpq hin ho he (hni e he)) (fun e he=>getD_set_ne false (Ne.symm (hni e he))) (hRs _ _ hR)
      have iF:∀ {x:Next} {w'':World},r=.ok x w''->(∀ u,x≠.value u)->∀ e,e∈ds->e.1≠i:=fun {x w''} hrx hx e0 he0 c=>by
       subst c
       rw[hop e0 he0 o _ w ho] at hr
       rw[<- hr] at hrx
       cases hrx
       exact hx _ rfl
      cases r with
      | ok n w' =>
       cases n <;> simp only[Zk] at hup <;> simp only[Oper.upon]
       case value u=>exact next u w' hup.1 hup.2 (hpn u w' rfl hup.1.1)
       case skip=>exact next undef w' hup.1 hup.2 (hpx _ _ (iF rfl (fun _ h=>by cases h)) hup.1.1)
       case enter fn args=>exact hup.mono fun e w'' ⟨u,he,h1,h2⟩=>by subst he;exact next u w'' h1 h2 (hpx _ _ (iF rfl (fun _ h=>by cases h)) h1.1)
      | halt x w'=>simp only[Zk] at hup
    . rw[if_neg (by rw[hwant,hwt];simp)]
      refine next undef w hE hup ?_
      have hg:o.guard=none->False:=fun h=>by rw[MO h] at hwt;cases hwt
      have hni:∀ e,e∈ds->e.1≠i:=fun e he c=>hg (by subst c;exact((Q4 hpq he).2 o ho).2)
      exact hpr.keep (fun e he=>NV hpq hin ho he (hni e he)) (fun e he=>getD_set_ne false (Ne.symm (hni e he))) (Nat.le_refl _)
theorem Vm {id:Nat} {l:List Oper} {a:Act} {W:World} (R G:World->World->Prop) (Φ:Nat->World->Prop) (m:Nat) (ds:List (Nat × Nat)) (Z:Obj) (ws:List Nat) (ks:List (Want R)) (hm:P.follows .mixedOrders=true) (hrefl:∀ x,R x x) (htr:∀ x y z,R x y->R y z->R x z)
 (H9:∀ x y,G x y->R x y) (TA:∀ x y p,G x y->Φ p x->Φ p y) (hΦ:Φ 0 W.drew) (hlt:m<=l.length)
 (hRs:∀ x y,R x y->x.heap.size<=y.heap.size) (hpq:RH l.toArray m ds=true) (hdp:∀ e,e∈ds->e.2<a.tmps.size)
 (hop:∀ e,e∈ds->∀ (o:Oper) ev w,l.toArray[e.1]?=some o->(execOp ev o).run P w=.ok (.value (pP w.heap.size 0)) (w.alloc Z))
 (hsel:Region.noSelect l.toArray=true) (hB:WH l.toArray m=true) (hback:Wl l.toArray m=true) (hfo:Yl l.toArray ws=true) (hwm:ws.all (·<m)=true)
 (U1:Region.sinkB .any l.toArray m=true) (WU:Region.chainB .any l.toArray m=true) (hseq:Region.seqB .any l.toArray (l.drop m).length m (Y7 m (l.drop m).length)=true)
 (hall:Zr P R G Φ ws l.toArray W.drew (fun a' w'=>(∀ e,e∈ds->∀ e',e'∈ds->e.1≠e'.1->a'.eval (.tmp e.2)≠a'.eval (.tmp e'.2))->wpList P l.toArray Q (l.drop m) a' w') 0 (l.take m) ks [] a):(Code.region id l.toArray true).wp P Q a W:=by
 refine wp_region_any hm ?_
 have hz:∀ i,(Array.replicate l.toArray.size false).getD i false=false:=fun i=>getD_replicate_false _ _
 have hsz:l.toArray.size=m+(l.drop m).length:=by simp;omega
 have hlen:ks.length=m:=by
  rw[Zc _ _ _ _ _ hall];simp;omega
 have h:=NU (P:=P) (ops:=l.toArray) (Q:=Q) (m:=m) (g:=(l.drop m).length) (W:=W.drew) (ks:=ks) (a:=a) (ds:=ds) (Z:=Z) (K:=fun a' w'=>(∀ e,e∈ds->∀ e',e'∈ds->e.1≠e'.1->a'.eval (.tmp e.2)≠a'.eval (.tmp e'.2))->wpList P l.toArray Q (l.drop m) a' w') htr H9 TA hsz (.inr ⟨U1,WU⟩) hsel hRs hpq hdp hop hB hback hfo hwm (by simpa using hall) ?_ m (Array.replicate l.toArray.size false) (ks.map Want.O7) W.drew ?_ ?_ (by simpa using hlen) (UG ks)
  (fun r k v _ _ h=>by rw[hz r] at h;cases h) (hrefl _) ?_ ?_
 . rw[XM _ _ _ _ (fun i _=>hz i),<- hsz] at h
   exact h
 . intro a' w' listed hk hne hs hL
   have e:listed=Y7 m (l.drop m).length:=by
    apply Array.ext
    . rw[hs,hsz];simp[Y7]
    . intro i h1 h2
      have h3:=hL i (by omega)
      simp[h1] at h3
      simp[Y7,h3]
   rw[e]
   exact wpAny_of_seq (l.drop m) m _ a' w' (fun j=>by simp[List.getElem?_drop]) hseq (hk hne)
 . unfold left
   rw[List.countP_eq_length.2 (fun i _=>by rw[hz i];rfl)]
   simp
 . refine⟨by simp,fun j oj _ h=>?_,fun t ht ht'=>by simp at ht';simp[ht']⟩
   rw[hz j] at h;cases h
 . have:doneN ws (Array.replicate l.toArray.size false)=0:=by
    unfold doneN
    rw[List.countP_eq_zero]
    intro c _
    rw[hz c];simp
   rw[this]
   exact hΦ
 . exact⟨(fun e _ h=>by rw[hz] at h;cases h),(fun e _ e' _ _ h=>by rw[hz] at h;cases h)⟩
end
end Go.Proofs.YtpbghmeikcphnaaGreat
