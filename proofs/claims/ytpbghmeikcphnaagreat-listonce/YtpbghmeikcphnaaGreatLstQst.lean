import Derived.Test.YtpbghmeikcphnaaGreatDropGo
import Derived.Test.YtpbghmeikcphnaaGreatAbb
import Derived.Test.YtpbghmeikcphnaaGreatLstBegun
import Derived.Test.YtpbghmeikcphnaaGreatLstOnc
import Derived.Deep.MidRow
namespace Go.Proofs.YtpbghmeikcphnaaGreat
open Go.RowKit
section
theorem eval_put_ne {a:Act} {d:Option Tmp} {v:Value} {t:Tmp} (h:d≠some t):(a.put d v).eval (.tmp t)=a.eval (.tmp t):=by
 cases d with
 | none=>rfl
 | some x =>
  have hx:x≠t:=fun e=>h (by rw[e])
  simp[Act.put,Act.eval,Array.getElem?_setIfInBounds_ne hx]
theorem eval_put_same {a:Act} {v:Value} {t:Tmp} (h:t<a.tmps.size):(a.put (some t) v).eval (.tmp t)=v:=by
 simp[Act.put,Act.eval,h]
section
variable {P:Program} {ops:Array Oper} {Q:Exit->Act->World->Prop} {R:World->World->Prop}
variable {G:World->World->Prop} {Φ:Nat->World->Prop} {ws:List Nat}
end
end
section
structure PS (ds:List (Nat × Nat)) (li:Nat->Bool) (a:Act) (w:World):Prop where
 p:∀ e,e∈ds->li e.1=true->∃ X,a.eval (.tmp e.2)=(pP X 0)/\X<w.heap.size
 ne:∀ e,e∈ds->∀ e',e'∈ds->e.1≠e'.1->li e.1=true->li e'.1=true->a.eval (.tmp e.2)≠a.eval (.tmp e'.2)
theorem PS.keep {ds:List (Nat × Nat)} {li vO:Nat->Bool} {a:Act} {w w':World} (h:PS ds li a w) {d:Option Tmp} {v:Value} (hd:∀ e,e∈ds->d≠some e.2) (hl:∀ e,e∈ds->vO e.1=li e.1) (hs:w.heap.size<=w'.heap.size):PS ds vO (a.put d v) w':=by
 refine⟨fun e he hi=>?_,fun e he e' he' hne h1 h2=>?_⟩
 . obtain⟨X,ex,hX⟩:=h.p e he (by rw[<- hl e he];exact hi)
   exact⟨X,by rw[eval_put_ne (hd e he)];exact ex,by omega⟩
 . rw[eval_put_ne (hd e he),eval_put_ne (hd e' he')]
   exact h.ne e he e' he' hne (by rw[<- hl e he];exact h1) (by rw[<- hl e' he'];exact h2)
theorem PS.add {ds:List (Nat × Nat)} {li vO:Nat->Bool} {a:Act} {w w':World} (h:PS ds li a w) {e0:Nat × Nat} (hs:∀ e,e∈ds->e.1=e0.1->e.2=e0.2) (ho:∀ e,e∈ds->e.1≠e0.1->e.2≠e0.2) {d:Option Tmp} (hd:d=some e0.2) (ht:e0.2<a.tmps.size) (hl:∀ e,e∈ds->e.1≠e0.1->vO e.1=li e.1) (hsz:w.heap.size<w'.heap.size):PS ds vO (a.put d (pP w.heap.size 0)) w':=by
 subst hd
 have ev:=eval_put_same (v:=(pP w.heap.size 0)) ht
 have eo:∀ e,e∈ds->e.1≠e0.1->(a.put (some e0.2) (pP w.heap.size 0)).eval (.tmp e.2)=a.eval (.tmp e.2):=fun e he hne=>eval_put_ne (fun k=>ho e he hne (by simpa using k.symm))
 have far:∀ e,e∈ds->e.1≠e0.1->vO e.1=true->a.eval (.tmp e.2)≠(pP w.heap.size 0):=fun e he hne hi k=>by
  obtain⟨X,ex,hX⟩:=h.p e he (by rw[<- hl e he hne];exact hi)
  rw[ex] at k
  simp only[Value.pointer.injEq,Option.some.injEq,Addr.mk.injEq] at k
  omega
 refine⟨fun e he hi=>?_,fun e he e' he' hne h1 h2=>?_⟩
 . by_cases c:e.1=e0.1
   . exact⟨_,by rw[hs e he c];exact ev,hsz⟩
   . obtain⟨X,ex,hX⟩:=h.p e he (by rw[<- hl e he c];exact hi)
     exact⟨X,by rw[eo e he c];exact ex,by omega⟩
 . by_cases c:e.1=e0.1
   . have c':e'.1≠e0.1:=fun c'=>hne (c.trans c'.symm)
     rw[hs e he c,ev,eo e' he' c']
     exact Ne.symm (far e' he' c' h2)
   . by_cases c':e'.1=e0.1
     . rw[hs e' he' c',ev,eo e he c]
       exact far e he c h1
     . rw[eo e he c,eo e' he' c']
       exact h.ne e he e' he' hne (by rw[<- hl e he c];exact h1) (by rw[<- hl e' he' c'];exact h2)
def Rz (ops:Array Oper) (m:Nat) (ds:List (Nat × Nat)):Bool :=
 ds.all (fun e=>decide (e.1<m) && (match ops[e.1]? with
  | some o=>o.dst == some e.2 && o.guard.isNone
  | none=>false)) && ds.all (fun e=>ds.all (fun e'=>decide (e.1=e'.1) == decide (e.2=e'.2))) && (List.range m).all (fun i=>match ops[i]? with
  | some o=>ds.all (fun e=>decide (e.1=i) || o.dst != some e.2)
  | none=>true)
theorem Q7 {ops:Array Oper} {m:Nat} {ds:List (Nat × Nat)} (h:Rz ops m ds=true) {e:Nat × Nat} (he:e∈ds):e.1<m/\∀ o,ops[e.1]?=some o->o.dst=some e.2/\o.guard=none:=by
 simp only[Rz,Bool.and_eq_true] at h
 have h1:=List.all_eq_true.1 h.1.1 e he
 simp only[Bool.and_eq_true,decide_eq_true_eq] at h1
 refine⟨h1.1,fun o ho=>?_⟩
 have h2:=h1.2
 rw[ho] at h2
 simpa [Bool.and_eq_true] using h2
theorem IL {ops:Array Oper} {m:Nat} {ds:List (Nat × Nat)} (h:Rz ops m ds=true) {e e':Nat × Nat} (he:e∈ds) (he':e'∈ds):e.1=e'.1↔e.2=e'.2:=by
 simp only[Rz,Bool.and_eq_true] at h
 have h1:=List.all_eq_true.1 (List.all_eq_true.1 h.1.2 e he) e' he'
 simpa using h1
theorem Ob {ops:Array Oper} {m:Nat} {ds:List (Nat × Nat)} (h:Rz ops m ds=true) {i:Nat} {o:Oper} (hi:i<m) (ho:ops[i]?=some o) {e:Nat × Nat} (he:e∈ds) (hne:e.1≠i):o.dst≠some e.2:=by
 simp only[Rz,Bool.and_eq_true] at h
 have h1:=List.all_eq_true.1 h.2 i (List.mem_range.2 hi)
 rw[ho] at h1
 have h2:=List.all_eq_true.1 h1 e he
 simp only[Bool.or_eq_true,decide_eq_true_eq,bne_iff_ne] at h2
 exact h2.resolve_left hne
section
variable {P:Program} {ops:Array Oper} {Q:Exit->Act->World->Prop} {R:World->World->Prop}
variable {G:World->World->Prop} {Φ:Nat->World->Prop} {ws:List Nat}
theorem Oa {m g:Nat} {ds:List (Nat × Nat)} {Z:Obj} {W:World} {ks:List (Want R)} {a:Act} {K:Act->World->Prop} (htr:∀ x y z,R x y->R y z->R x z) (IM:∀ x y,G x y->R x y) (Tz:∀ x y p,G x y->Φ p x->Φ p y)
 (hsz:ops.size=m+g) (htail:g=0\/(Region.sinkB .any ops m=true/\Region.chainB .any ops m=true)) (hsel:Region.noSelect ops=true)
 (hRs:∀ x y,R x y->x.heap.size<=y.heap.size) (hpq:Rz ops m ds=true) (hdp:∀ e,e∈ds->e.2<a.tmps.size)
 (hop:∀ e,e∈ds->∀ (o:Oper) ev w,ops[e.1]?=some o->(execOp ev o).run P w=.ok (.value (pP w.heap.size 0)) (w.alloc Z)) (hB:WH ops m=true) (hback:Wj ops m=true) (hfo:Yp ops ws=true) (hwm:ws.all (·<m)=true)
 (hall:Zn P R G Φ ws ops W K 0 (ops.toList.take m) ks [] a)
 (hK:∀ (a':Act) (w':World) (listed:Array Bool),K a' w'->(∀ e,e∈ds->∀ e',e'∈ds->e.1≠e'.1->a'.eval (.tmp e.2)≠a'.eval (.tmp e'.2))->listed.size=ops.size->(∀ i,i<ops.size->listed.getD i false=decide (i<m))->wpAny P .any ops Q g listed a' w') :
 ∀ (f:Nat) (listed:Array Bool) (vs:List Value) (w:World),left m listed=f->HeadInv .any ops m listed->vs.length=m->(∀ (r:Nat) (c:Value),ks[r]?=some (Want.val c)->vs[r]?=some c) ->
  (∀ (r:Nat) (k:Want R) (v:Value),ks[r]?=some k->vs[r]?=some v->listed.getD r false=true->k.pred w v)->R W w->Φ (doneN ws listed) w->PS ds (fun k=>listed.getD k false) (ZB (fun k=>listed.getD k false) (ops.toList.take m) vs 0 a) w ->
  wpAny P .any ops Q (f+g) listed (ZB (fun k=>listed.getD k false) (ops.toList.take m) vs 0 a) w:=by
 have hlen:(ops.toList.take m).length=m:=by simp;omega
 have hks:ks.length=m:=by rw[Zb _ _ _ _ _ hall,hlen]
 have hpre:∀ r,r<m->(ops.toList.take m)[r]?=ops[r]?:=fun r hr=>by
  rw[List.getElem?_take_of_lt hr];simp
 intro f
 induction f with
 | zero =>
  intro listed vs w hl inv hvl LH hp hw hΦ hpr
  have h1:=Wl hl
  have hne:∀ e,e∈ds->∀ e',e'∈ds->e.1≠e'.1->(ZB (fun _=>true) (ops.toList.take m) vs 0 a).eval (.tmp e.2)≠(ZB (fun _=>true) (ops.toList.take m) vs 0 a).eval (.tmp e'.2):=fun e he e' he' hn=>by
   have:=hpr.ne e he e' he' hn (h1 _ (Q7 hpq he).1) (h1 _ (Q7 hpq he').1)
   rwa [XM (L':=fun _=>true) _ _ _ _ (fun i _ hi=>h1 i (by omega))] at this
  rw[Nat.zero_add,XM (L':=fun _=>true) _ _ _ _ (fun i _ hi=>h1 i (by omega))]
  have hdone:doneN ws listed=ws.length:=by
   unfold doneN
   rw[List.countP_eq_length]
   intro c hc
   exact h1 c (by simpa using List.all_eq_true.1 hwm c hc)
  rw[hdone] at hΦ
  refine hK _ _ listed (XY _ ks vs 0 [] a hall (by omega) w hw hΦ trivial fun r k v hk hv=>hp r k v hk hv (h1 r ?_)) hne inv.size fun i hi=>?_
  . have:=(List.getElem?_eq_some_iff.1 hk).1;omega
  . rcases Nat.lt_or_ge i m with h2 | h2
    . rw[h1 i h2];simp[h2]
    . rw[getD_both (inv.tail i h2 hi)];simp;omega
 | succ f ih =>
  intro listed vs w hl inv hvl LH hp hw hΦ hpr
  rw[show f+1+g=(f+g)+1 from by omega]
  obtain⟨i0,hi0,hu0,hb0⟩:=UT m (by omega:left m listed≠0)
  have PT:listed.getD i0 true=false:=getD_in (by rw[inv.size];omega) hu0
  refine⟨fun h0=>?_,fun i hi=>?_⟩
  . exfalso
    have h1:=List.all_eq_true.1 hback i0 (List.mem_range.2 hi0)
    have hlt:i0<ops.size:=by omega
    rw[Array.getElem?_eq_getElem hlt] at h1
    have h2:i0∈Region.ready .any ops listed:=by
     rw[mem_ready]
     refine⟨PT,ops[i0],Array.getElem?_eq_getElem hlt,fun e he hb=>?_⟩
     have:=Array.all_eq_true_iff_forall_mem.1 h1 e he
     simp[hb] at this
     exact hb0 _ this
    rw[h0] at h2
    cases h2
  . obtain⟨hun,o,ho,hafter⟩:=mem_ready.1 hi
    have hin:i<m:=by
     rcases Nat.lt_or_ge i m with h | h
     . exact h
     . rcases htail with h0 | ⟨U4,WX⟩
       . have:=(Array.getElem?_eq_some_iff.1 ho).1;omega
       . have hlt:=(Array.getElem?_eq_some_iff.1 ho).1
         exact absurd hi (tail_waits U4 WX (by omega) inv _ i0 rfl hi0 PT i h)
    have hun':=getD_both hun
    have hisz:i<listed.size:=by rw[inv.size];omega
    have JE:=inv.set hi hin
    have hl':left m (listed.setIfInBounds i true)=f:=by have:=TP hisz hun' m hin;omega
    have hset:(listed.setIfInBounds i true).getD i false=true:=by simp[hisz]
    have so:=Yv hB hin ho
    obtain⟨k,hk⟩:∃ k,ks[i]?=some k:=⟨ks[i],List.getElem?_eq_getElem (by omega)⟩
    have WY:∀ r,Region.waitsFor .any ops i r=true->listed.getD r false=true:=fun r hr=>by
     obtain⟨oj,hoj,e,he,hb,hon⟩:=Region.waitsFor_spec hr
     have:oj=o:=Option.some.inj (hoj.symm.trans ho)
     subst this
     have h3:=hafter e he hb
     rwa [hon] at h3
    have U5:=U7 (i:=i) _ ks vs 0 [] a o k hall ((hpre i hin).trans ho) hk (by omega) LH w hw trivial
     (fun r k' v _ h1 h2 h3=>hp r k' v h1 h2 (WY r (by simpa using h3)))
    rw[Nat.zero_add] at U5
    -- what the operation does,whichever it is
    have hst:V7 P (fun x y=>R x y/\Φ (doneN ws (listed.setIfInBounds i true)) y) ops o (ZB (fun q=>decide (q<i)) (ops.toList.take m) vs 0 a) w k.pred:=by
     have weak:∀ {E:World->World->Prop} {E':World->World->Prop} (φ:World->Value->Prop) (x:World) (r:Result Next),(∀ y,E x y->E' x y)->Zj P E x φ r->Zj P E' x φ r:=by
      intro E E' φ x r hE h
      cases r with
      | ok n w' =>
       cases n <;> simp only[Zj] at h ⊢
       case value u=>exact⟨hE _ h.1,h.2⟩
       case skip=>exact⟨hE _ h.1,h.2⟩
       case enter fn args=>exact h.mono fun e w'' ⟨u,he,h1,h2⟩=>⟨u,he,hE _ h1,h2⟩
      | halt x w'=>simp only[Zj] at h
     cases LW:YX ws i with
     | some p =>
      rw[LW] at U5
      have hd:=Q8 inv hfo hi LW
      rw[hd] at hΦ
      rw[Qh inv hfo hi hin hisz LW]
      rcases U5 hΦ with⟨h1,h2⟩ | ⟨h1,h2,h3⟩
      . exact .inl ⟨h1,weak _ _ _ (fun y hy=>hy) h2⟩
      . exact .inr ⟨h1,h2,h3⟩
     | none =>
      rw[LW] at U5
      rw[RV LW]
      rcases U5 with⟨h1,h2⟩ | ⟨h1,h2,h3⟩
      . exact .inl ⟨h1,weak _ _ _ (fun y hy=>⟨IM _ _ hy,Tz _ _ _ hy hΦ⟩) h2⟩
      . exact .inr ⟨h1,⟨IM _ _ h2,Tz _ _ _ h2 hΦ⟩,h3⟩
    have hsame:∀ t,t∈o.looksAt ops->(ZB (fun k=>listed.getD k false) (ops.toList.take m) vs 0 a).eval (.tmp t)=(ZB (fun q=>decide (q<i)) (ops.toList.take m) vs 0 a).eval (.tmp t):=fun t hlook=>by
     refine Wn _ _ _ _ _ rfl rfl fun r o' ho' hd=>?_
     have hrm:r<m:=by have:=(List.getElem?_eq_some_iff.1 ho').1;omega
     obtain⟨h1,h2⟩:=so.data r o' t hrm ((hpre r hrm).symm.trans ho') hd hlook
     simp only[Nat.zero_add]
     rw[WY r h2];simp[h1]
    have heq:execOp (ZB (fun k=>listed.getD k false) (ops.toList.take m) vs 0 a).eval o=execOp (ZB (fun q=>decide (q<i)) (ops.toList.take m) vs 0 a).eval o:=by
     refine execOp_congr o (fun cs b=>Region.noSelect_spec hsel i o cs b ho) fun x hx=>?_
     cases x with
     | tmp t=>exact hsame t (List.mem_append_left _ (List.mem_filterMap.2 ⟨.tmp t,by simpa using hx,rfl⟩))
     | _=>rfl
    have hwant:=WG (ops:=ops) (o:=o) (a:=ZB (fun k=>listed.getD k false) (ops.toList.take m) vs 0 a) (a':=ZB (fun q=>decide (q<i)) (ops.toList.take m) vs 0 a) (by rw[YE,YE]) hsame
    -- what follows an operation's outcome
    have next:∀ (u:Value) (w':World),(R w w'/\Φ (doneN ws (listed.setIfInBounds i true)) w')->k.pred w' u->PS ds (fun k=>(listed.setIfInBounds i true).getD k false) ((ZB (fun k=>listed.getD k false) (ops.toList.take m) vs 0 a).put o.dst u) w'->wpAny P .any ops Q (f+g) (listed.setIfInBounds i true) ((ZB (fun k=>listed.getD k false) (ops.toList.take m) vs 0 a).put o.dst u) w':=by
     intro u w' LV Dy rG
     have hR:=LV.1
     have JD:i<vs.length:=by omega
     have hfr:(ZB (fun k=>listed.getD k false) (ops.toList.take m) vs 0 a).put o.dst u=ZB (fun k=>(listed.setIfInBounds i true).getD k false) (ops.toList.take m) (vs.set i u) 0 a:=by
      rw[V6 (L:=fun k=>listed.getD k false) (ops.toList.take m) vs (vs.set i u) 0 a (by simp) (fun r hr=>?_)]
      . rw[TQ (L:=fun k=>listed.getD k false) (L':=fun k=>(listed.setIfInBounds i true).getD k false) (i:=i) (ops.toList.take m) (vs.set i u) 0 a o u ((hpre i hin).trans ho) (by simp[JD]) ?_ ?_ ?_ ?_]
        . intro r s x y hx hy hrs d hd
          have hsm:s<m:=by have:=(List.getElem?_eq_some_iff.1 hy).1;omega
          exact(Yv hB hsm ((hpre s hsm).symm.trans hy)).ap r x d hrs ((hpre r (by omega)).symm.trans hx) hd
        . simpa using hun'
        . simpa using hset
        . intro q hq;exact getD_set_ne false (by omega)
      . have:i≠r:=fun e=>by subst e;simp only[Nat.zero_add] at hr;rw[hun'] at hr;cases hr
        rw[List.getElem?_set_ne this]
     rw[hfr] at rG ⊢
     refine ih _ (vs.set i u) w' hl' JE (by simpa using hvl) (fun r c hc=>?_) (fun r k' v hk' hv hlr=>?_) (htr _ _ _ hw hR) LV.2 rG
     . by_cases e:i=r
       . subst e
         rw[hk] at hc
         cases hc
         have:u=c:=Dy
         subst this
         simp[JD]
       . rw[List.getElem?_set_ne e];exact LH r c hc
     . by_cases e:i=r
       . subst e
         rw[hk] at hk'
         cases hk'
         simp only[List.getElem?_set_self JD,Option.some.injEq] at hv
         subst hv
         exact Dy
       . rw[List.getElem?_set_ne e] at hv
         rw[getD_set_ne false e] at hlr
         exact k'.keeps hR (hp r k' v hk' hv hlr)
    unfold wpOp
    simp only[ho]
    rcases hst with⟨hwt,hup⟩ | ⟨hwt,hE,hup⟩
    . rw[if_pos (hwant.trans hwt)]
      refine .inl ?_
      unfold Oper.wp
      rw[heq]
      generalize hr:(execOp (ZB (fun q=>decide (q<i)) (ops.toList.take m) vs 0 a).eval o).run P w=r at *
      have hpn:∀ u w',r=.ok (.value u) w'->R w w'->PS ds (fun k=>(listed.setIfInBounds i true).getD k false) ((ZB (fun k=>listed.getD k false) (ops.toList.take m) vs 0 a).put o.dst u) w':=fun u w' kZ hR=>by
       by_cases hm:∃ e,e∈ds/\e.1=i
       . obtain⟨e0,he0,hi0⟩:=hm
         subst hi0
         rw[hop e0 he0 o _ w ho] at hr
         rw[<- hr] at kZ
         cases kZ
         exact hpr.add (e0:=e0) (fun e he c=>(IL hpq he he0).1 c) (fun e he c k=>c ((IL hpq he he0).2 k)) ((Q7 hpq he0).2 o ho).1 (by rw[YE];exact hdp e0 he0) (fun e he c=>getD_set_ne false (Ne.symm c)) (by rw[Go.Deep.nblk_alloc];omega)
       . have hni:∀ e,e∈ds->e.1≠i:=fun e he c=>hm ⟨e,he,c⟩
         exact hpr.keep (fun e he=>Ob hpq hin ho he (hni e he)) (fun e he=>getD_set_ne false (Ne.symm (hni e he))) (hRs _ _ hR)
      have hpx:∀ u w',(∀ e,e∈ds->e.1≠i)->R w w'->PS ds (fun k=>(listed.setIfInBounds i true).getD k false) ((ZB (fun k=>listed.getD k false) (ops.toList.take m) vs 0 a).put o.dst u) w':=fun u w' hni hR =>
       hpr.keep (fun e he=>Ob hpq hin ho he (hni e he)) (fun e he=>getD_set_ne false (Ne.symm (hni e he))) (hRs _ _ hR)
      have kY:∀ {x:Next} {w'':World},r=.ok x w''->(∀ u,x≠.value u)->∀ e,e∈ds->e.1≠i:=fun {x w''} hrx hx e0 he0 c=>by
       subst c
       rw[hop e0 he0 o _ w ho] at hr
       rw[<- hr] at hrx
       cases hrx
       exact hx _ rfl
      cases r with
      | ok n w' =>
       cases n <;> simp only[Zj] at hup <;> simp only[Oper.upon]
       case value u=>exact next u w' hup.1 hup.2 (hpn u w' rfl hup.1.1)
       case skip=>exact next undef w' hup.1 hup.2 (hpx _ _ (kY rfl (fun _ h=>by cases h)) hup.1.1)
       case enter fn args=>exact hup.mono fun e w'' ⟨u,he,h1,h2⟩=>by subst he;exact next u w'' h1 h2 (hpx _ _ (kY rfl (fun _ h=>by cases h)) h1.1)
      | halt x w'=>simp only[Zj] at hup
    . rw[if_neg (by rw[hwant,hwt];simp)]
      refine next undef w hE hup ?_
      have hg:o.guard=none->False:=fun h=>by rw[Na h] at hwt;cases hwt
      have hni:∀ e,e∈ds->e.1≠i:=fun e he c=>hg (by subst c;exact((Q7 hpq he).2 o ho).2)
      exact hpr.keep (fun e he=>Ob hpq hin ho he (hni e he)) (fun e he=>getD_set_ne false (Ne.symm (hni e he))) (Nat.le_refl _)
theorem Vs {id:Nat} {l:List Oper} {a:Act} {W:World} (R G:World->World->Prop) (Φ:Nat->World->Prop) (m:Nat) (ds:List (Nat × Nat)) (Z:Obj) (ws:List Nat) (ks:List (Want R)) (hm:P.follows .mixedOrders=true) (hrefl:∀ x,R x x) (htr:∀ x y z,R x y->R y z->R x z)
 (IM:∀ x y,G x y->R x y) (Tz:∀ x y p,G x y->Φ p x->Φ p y) (hΦ:Φ 0 W.drew) (hlt:m<=l.length)
 (hRs:∀ x y,R x y->x.heap.size<=y.heap.size) (hpq:Rz l.toArray m ds=true) (hdp:∀ e,e∈ds->e.2<a.tmps.size)
 (hop:∀ e,e∈ds->∀ (o:Oper) ev w,l.toArray[e.1]?=some o->(execOp ev o).run P w=.ok (.value (pP w.heap.size 0)) (w.alloc Z))
 (hsel:Region.noSelect l.toArray=true) (hB:WH l.toArray m=true) (hback:Wj l.toArray m=true) (hfo:Yp l.toArray ws=true) (hwm:ws.all (·<m)=true)
 (U4:Region.sinkB .any l.toArray m=true) (WX:Region.chainB .any l.toArray m=true) (hseq:Region.seqB .any l.toArray (l.drop m).length m (Y7 m (l.drop m).length)=true)
 (hall:Zn P R G Φ ws l.toArray W.drew (fun a' w'=>(∀ e,e∈ds->∀ e',e'∈ds->e.1≠e'.1->a'.eval (.tmp e.2)≠a'.eval (.tmp e'.2))->wpList P l.toArray Q (l.drop m) a' w') 0 (l.take m) ks [] a):(Code.region id l.toArray true).wp P Q a W:=by
 refine wp_region_any hm ?_
 have hz:∀ i,(Array.replicate l.toArray.size false).getD i false=false:=fun i=>getD_replicate_false _ _
 have hsz:l.toArray.size=m+(l.drop m).length:=by simp;omega
 have hlen:ks.length=m:=by
  rw[Zb _ _ _ _ _ hall];simp;omega
 have h:=Oa (P:=P) (ops:=l.toArray) (Q:=Q) (m:=m) (g:=(l.drop m).length) (W:=W.drew) (ks:=ks) (a:=a) (ds:=ds) (Z:=Z) (K:=fun a' w'=>(∀ e,e∈ds->∀ e',e'∈ds->e.1≠e'.1->a'.eval (.tmp e.2)≠a'.eval (.tmp e'.2))->wpList P l.toArray Q (l.drop m) a' w') htr IM Tz hsz (.inr ⟨U4,WX⟩) hsel hRs hpq hdp hop hB hback hfo hwm (by simpa using hall) ?_ m (Array.replicate l.toArray.size false) (ks.map Want.Pn) W.drew ?_ ?_ (by simpa using hlen) (UI ks)
  (fun r k v _ _ h=>by rw[hz r] at h;cases h) (hrefl _) ?_ ?_
 . rw[XN _ _ _ _ (fun i _=>hz i),<- hsz] at h
   exact h
 . intro a' w' listed hk hne hs hL
   have e:listed=Y7 m (l.drop m).length:=by
    apply Array.ext
    . rw[hs,hsz];simp[Y7]
    . intro i h1 h2
      have h3:=hL i (by omega)
      simp[h1] at h3
      simp[Y7,h3]
   rw[e]
   exact wpAny_of_seq (l.drop m) m _ a' w' (fun j=>by simp[List.getElem?_drop]) hseq (hk hne)
 . unfold left
   rw[List.countP_eq_length.2 (fun i _=>by rw[hz i];rfl)]
   simp
 . refine⟨by simp,fun j oj _ h=>?_,fun t ht ht'=>by simp at ht';simp[ht']⟩
   rw[hz j] at h;cases h
 . have:doneN ws (Array.replicate l.toArray.size false)=0:=by
    unfold doneN
    rw[List.countP_eq_zero]
    intro c _
    rw[hz c];simp
   rw[this]
   exact hΦ
 . exact⟨(fun e _ h=>by rw[hz] at h;cases h),(fun e _ e' _ _ h=>by rw[hz] at h;cases h)⟩
end
end
section
set_option maxRecDepth 20000
def IZ:Nat->Int->Prop
 | 0,_=>False
 | 1,x=>x=5
 | 2,x=>x=5
 | _,_=>False
def oO:Nat->Nat
 | 0=>1
 | _=>2
def VP (L:Loc) (p:Nat) (w:World):Prop:=∃ s σ q pn h jb F u ts,Rest 4 8 L 0 12 (oO p) w s σ q pn h jb 0 F u ts/\h.H 0=65536/\σ<=600+p * 700/\∀ x,0<=x->(u.S σ x↔IZ p x)
theorem Ug (L:Loc) (x y:World) (p:Nat) (g:Grown x y) (k:VP L p x):VP L p y:=by
 obtain⟨s,σ,q,pn,h,jb,F,u,ts,R,h1,h2,h3⟩:=k
 exact⟨s,σ,q,pn,h,jb,F,u,ts,⟨R.mm.below g,R.vl,R.lc,R.nn,R.room,R.hJ,R.pn,R.td,R.od⟩,h1,h2,h3⟩
theorem Rest.e7 {n K Jm J:Nat} {L:Loc} {w:World} {s:Mm} {σ:Nat} {q:Q} {pn:Nat->Int} {h:Gh} {jb:Nat->Jb} {hd:Nat} {F:List Nat} {u:Hi} {ts:Nat->Option (Cl × Option Rs)} {t:Nat} (R:Rest t n L K Jm J w s σ q pn h jb hd F u ts) (hK:K<4) (hn:J+3<n):q.F≠[] :=
 R.lc.m.slots hK (by rw[R.lc.n K R.nn];rfl) (by have:=R.hJ;omega)
theorem hi0 (σ:Nat) (x:Int):ru.S σ x↔IZ 0 x:=Iff.rfl
theorem Ou {L:Loc} {w:World} {p:Nat} {kd v:Int} (k:VP L p w) (hp:p<4) (hJ:oO p+(if kd=2 then 1 else 0)<=2) (hk:kd=1\/kd=2\/kd=3) (hv:(v=1/\(IZ p 5↔kd≠2))\/(v=0/\¬ (IZ p 5↔kd≠2))) (hS:∀ x,0<=x->((if kd≠1/\x=5 then kd=2 else IZ p x)↔IZ (p+1) x)) :
 Calls Tryz.prog 11 #[.agg #[.int .i64 4,.int .i64 8,.int .i64 12,.int .i64 40,.int .i64 100,.int .i64 600,.int .i64 3,.pointer (some ⟨L.p,0,none⟩),.int .i64 0],.int .u64 65536,.int .i64 kd,.int .i64 5] w fun e w'=>∃ st:Int,e=.returned (.agg #[.int .i64 0,.int .u64 0,.int .i64 v,.int .i64 st])/\VP L (p+1) w'/\Only L.has w w':=by
 obtain⟨s,σ,q,pn,h,jb,F,u,ts,R,h1,h2,h3⟩:=k
 refine(I4 (kd:=kd) (key:=5) R (Pz (n:=8) (by decide) (by decide)) (by decide) (by have:oO p<=2:=(Nat.le_trans (Nat.le_add_right _ _) hJ);omega) (by decide) (by decide) (by decide) (by decide) (by omega) hk (by decide) (by decide) h1).mono ?_
 rintro e w' ⟨E,v',st,s',σ',q',YT,h',PV,F',u',ts',rfl,R',fin,-,hs,on,hH⟩
 have E0:E=0:=Classical.byContradiction fun hne=>R'.e7 (by decide) (by omega) (fin.no hne).2.2.2.1
 obtain⟨f1,f2⟩:=fin.yes E0
 have e5:=h3 5 (by decide)
 have ev:v'=v:=by
  rw[e5] at f1
  rcases f1 with⟨a,b⟩ | ⟨a,b⟩ <;> rcases hv with⟨c,d⟩ | ⟨c,d⟩
  . omega
  . exact absurd b d
  . exact absurd d b
  . omega
 rw[E0,ev]
 refine⟨st,rfl,⟨s',σ',q',YT,h',PV,F',u',ts',⟨R'.mm,R'.vl,R'.lc,R'.nn,R'.room,Nat.le_trans R'.hJ hJ,R'.pn,R'.td,R'.od⟩,hH,by omega,fun x hx=>?_⟩,on⟩
 rw[f2 x hx,<- hS x hx]
 by_cases c:kd≠1/\x=5
 . rw[if_pos c,if_pos c]
 . rw[if_neg c,if_neg c];exact h3 x hx
theorem xK {L:Loc} {w:World} (k:VP L 0 w):Calls Tryz.prog 11 #[.agg #[.int .i64 4,.int .i64 8,.int .i64 12,.int .i64 40,.int .i64 100,.int .i64 600,.int .i64 3,.pointer (some ⟨L.p,0,none⟩),.int .i64 0],.int .u64 65536,.int .i64 2,.int .i64 5] w fun e w'=>∃ st:Int,e=.returned (.agg #[.int .i64 0,.int .u64 0,.int .i64 1,.int .i64 st])/\VP L 1 w'/\Only L.has w w' :=
 Ou k (by decide) (by decide) (Or.inr (Or.inl rfl)) (Or.inl ⟨rfl,by simp[IZ]⟩) (fun x _=>by by_cases c:x=5 <;> simp[IZ,c])
theorem xJ {L:Loc} {w:World} (k:VP L 1 w):Calls Tryz.prog 11 #[.agg #[.int .i64 4,.int .i64 8,.int .i64 12,.int .i64 40,.int .i64 100,.int .i64 600,.int .i64 3,.pointer (some ⟨L.p,0,none⟩),.int .i64 0],.int .u64 65536,.int .i64 1,.int .i64 5] w fun e w'=>∃ st:Int,e=.returned (.agg #[.int .i64 0,.int .u64 0,.int .i64 1,.int .i64 st])/\VP L 2 w'/\Only L.has w w' :=
 Ou k (by decide) (by decide) (Or.inl rfl) (Or.inl ⟨rfl,by simp[IZ]⟩) (fun x _=>by simp[IZ])
theorem xI {L:Loc} {w:World} (k:VP L 2 w):Calls Tryz.prog 11 #[.agg #[.int .i64 4,.int .i64 8,.int .i64 12,.int .i64 40,.int .i64 100,.int .i64 600,.int .i64 3,.pointer (some ⟨L.p,0,none⟩),.int .i64 0],.int .u64 65536,.int .i64 3,.int .i64 5] w fun e w'=>∃ st:Int,e=.returned (.agg #[.int .i64 0,.int .u64 0,.int .i64 1,.int .i64 st])/\VP L 3 w'/\Only L.has w w' :=
 Ou k (by decide) (by decide) (Or.inr (Or.inr rfl)) (Or.inl ⟨rfl,by simp[IZ]⟩) (fun x _=>by by_cases c:x=5 <;> simp[IZ,c])
theorem xH {L:Loc} {w:World} (k:VP L 3 w):Calls Tryz.prog 11 #[.agg #[.int .i64 4,.int .i64 8,.int .i64 12,.int .i64 40,.int .i64 100,.int .i64 600,.int .i64 3,.pointer (some ⟨L.p,0,none⟩),.int .i64 0],.int .u64 65536,.int .i64 1,.int .i64 5] w fun e w'=>∃ st:Int,e=.returned (.agg #[.int .i64 0,.int .u64 0,.int .i64 0,.int .i64 st])/\VP L 4 w'/\Only L.has w w' :=
 Ou k (by decide) (by decide) (Or.inl rfl) (Or.inr ⟨rfl,by simp[IZ]⟩) (fun x _=>by simp[IZ])
set_option maxRecDepth 20000 in
set_option maxHeartbeats 1000000 in
theorem MX (w:World):Calls Tryz.prog 10 #[] w fun e w'=>e=.returned (.bool true)/\Below w.heap.size w w':=by
 have bg:=fun w=>PE (n:=8) (by decide) (by decide) w
 go_enter Tryz.func10,Tryz.ntmps10
 go_wp2_with (go_at_call 9;refine(bg _).mono ?_;rintro e w1 ⟨L,s,σ,F0,rfl,R0,b1,l1,hσ,-⟩)
 have k0:VP L 0 w1:=⟨s,σ,_,_,_,_,_,_,_,R0 0 12 (by decide),zJ 4 8 12 40,by omega,fun x _=>hi0 σ x⟩
 clear R0 bg hσ
 refine ZR (fun W=>VP L 0 W/\ZM W w1.heap.size 4 8 12 40 100 600 3 L.p 0/\Below w.heap.size w W/\¬ L.has w1.heap.size) ⟨Ug L _ _ 0 (ZY _ _) k0,ZM.new,Z4 b1 _,?_⟩ ?_
 . obtain⟨s,σ,q,pn,h,jb,F,u,ts,R,-⟩:=k0
   exact Q9 R.mm (Nat.le_refl _)
 clear k0
 rintro W ⟨k1,v1,bW,tV⟩
 obtain⟨Sz,hSz⟩:∃ Sz,W.heap.size=Sz:=⟨_,rfl⟩
 have Dh:∀ k,L.has k->k<Sz:=fun k hk=>by obtain⟨s,σ,q,pn,h,jb,F,u,ts,R,-⟩:=k1;have:=R.mm.lt k hk;omega
 have tN:∀ (x1 y1:World) (v:Value),Only L.has x1 y1->(∃ X,v=.pointer (some ⟨X,0,none⟩)/\Sz<=X/\At x1 X 0 37 #[.int .i64 0,.int .u64 0,.int .i64 0,.int .i64 0] [.int .i64 0,.int .u64 0,.int .i64 0,.int .i64 0])->∃ X,v=.pointer (some ⟨X,0,none⟩)/\Sz<=X/\At y1 X 0 37 #[.int .i64 0,.int .u64 0,.int .i64 0,.int .i64 0] [.int .i64 0,.int .u64 0,.int .i64 0,.int .i64 0]:=by
  rintro x1 y1 v hg ⟨X,hv,hb,hr⟩
  exact⟨X,hv,hb,hr.only hg (fun hh=>by have:=Dh _ hh;omega)⟩
 refine Vs (Only L.has) Grown (VP L) 16 [(12,4),(13,5),(14,6),(15,7)] (.cells #[.int .i64 0,.int .u64 0,.int .i64 0,.int .i64 0] 37) [2,5,8,11] [.val (.agg #[.int .i64 4,.int .i64 8,.int .i64 12,.int .i64 40,.int .i64 100,.int .i64 600,.int .i64 3,.pointer (some ⟨L.p,0,none⟩),.int .i64 0]),.val (.int .u64 65536),.that (fun _ x=>∃ st:Int,x=.agg #[.int .i64 0,.int .u64 0,.int .i64 1,.int .i64 st]) (fun _ _ _ _ h=>h),.val (.agg #[.int .i64 4,.int .i64 8,.int .i64 12,.int .i64 40,.int .i64 100,.int .i64 600,.int .i64 3,.pointer (some ⟨L.p,0,none⟩),.int .i64 0]),.val (.int .u64 65536),.that (fun _ x=>∃ st:Int,x=.agg #[.int .i64 0,.int .u64 0,.int .i64 1,.int .i64 st]) (fun _ _ _ _ h=>h),.val (.agg #[.int .i64 4,.int .i64 8,.int .i64 12,.int .i64 40,.int .i64 100,.int .i64 600,.int .i64 3,.pointer (some ⟨L.p,0,none⟩),.int .i64 0]),.val (.int .u64 65536),.that (fun _ x=>∃ st:Int,x=.agg #[.int .i64 0,.int .u64 0,.int .i64 1,.int .i64 st]) (fun _ _ _ _ h=>h),.val (.agg #[.int .i64 4,.int .i64 8,.int .i64 12,.int .i64 40,.int .i64 100,.int .i64 600,.int .i64 3,.pointer (some ⟨L.p,0,none⟩),.int .i64 0]),.val (.int .u64 65536),.that (fun _ x=>∃ st:Int,x=.agg #[.int .i64 0,.int .u64 0,.int .i64 0,.int .i64 st]) (fun _ _ _ _ h=>h),.that (fun w' x=>∃ X,x=.pointer (some ⟨X,0,none⟩)/\Sz<=X/\At w' X 0 37 #[.int .i64 0,.int .u64 0,.int .i64 0,.int .i64 0] [.int .i64 0,.int .u64 0,.int .i64 0,.int .i64 0]) tN,.that (fun w' x=>∃ X,x=.pointer (some ⟨X,0,none⟩)/\Sz<=X/\At w' X 0 37 #[.int .i64 0,.int .u64 0,.int .i64 0,.int .i64 0] [.int .i64 0,.int .u64 0,.int .i64 0,.int .i64 0]) tN,.that (fun w' x=>∃ X,x=.pointer (some ⟨X,0,none⟩)/\Sz<=X/\At w' X 0 37 #[.int .i64 0,.int .u64 0,.int .i64 0,.int .i64 0] [.int .i64 0,.int .u64 0,.int .i64 0,.int .i64 0]) tN,.that (fun w' x=>∃ X,x=.pointer (some ⟨X,0,none⟩)/\Sz<=X/\At w' X 0 37 #[.int .i64 0,.int .u64 0,.int .i64 0,.int .i64 0] [.int .i64 0,.int .u64 0,.int .i64 0,.int .i64 0]) tN] (by kernel_rfl) (Only.refl _) (fun _ _ _ h k=>h.trans k) (fun x y h=>Only.ZZ h) (Ug L) (Ug L _ _ 0 ((Below.refl _ _).drew) k1) (by decide) (fun x y h=>h.size) (by kernel_rfl) (by simp) ?_ (by kernel_rfl) (by kernel_rfl) (by kernel_rfl) (by kernel_rfl) (by kernel_rfl) (by kernel_rfl) (by kernel_rfl) (by kernel_rfl) ?_
 . intro e he o ev w' ho
   simp only[List.mem_cons,List.not_mem_nil,or_false] at he
   rcases he with rfl | rfl | rfl | rfl <;>
    (simp only[List.getElem?_toArray,List.getElem?_cons_succ,List.getElem?_cons_zero,Option.some.injEq] at ho
     subst ho
     go_simp)
 simp only[List.take_succ_cons,List.take_zero,Zn,Act.put,List.setIfInBounds_toArray,List.set_cons_zero,List.set_cons_succ]
 refine⟨?_,?_⟩
 . intro w' hR _
   apply ol
   obtain⟨y0,y1,y2,y3,y4,y5,y6,y7,y8⟩:=(v1.grown ((Below.refl _ _).drew)).only hR tV
   go_simp
   exact gl
 refine⟨?_,?_⟩
 . intros;apply ol;go_simp;exact gl
 refine⟨?_,?_⟩
 . intro w' hR _ hP
   apply ol
   have hP:VP L 0 w':=hP
   go_simp
   refine(xK hP).mono ?_
   rintro e w'' ⟨st,rfl,h1,h2⟩
   exact⟨_,rfl,⟨h2,h1⟩,st,rfl⟩
 intro x0
 refine⟨?_,?_⟩
 . intro w' hR _
   apply ol
   obtain⟨y0,y1,y2,y3,y4,y5,y6,y7,y8⟩:=(v1.grown ((Below.refl _ _).drew)).only hR tV
   go_simp
   exact gl
 refine⟨?_,?_⟩
 . intros;apply ol;go_simp;exact gl
 refine⟨?_,?_⟩
 . intro w' hR _ hP
   apply ol
   have hP:VP L 1 w':=hP
   go_simp
   refine(xJ hP).mono ?_
   rintro e w'' ⟨st,rfl,h1,h2⟩
   exact⟨_,rfl,⟨h2,h1⟩,st,rfl⟩
 intro x1
 refine⟨?_,?_⟩
 . intro w' hR _
   apply ol
   obtain⟨y0,y1,y2,y3,y4,y5,y6,y7,y8⟩:=(v1.grown ((Below.refl _ _).drew)).only hR tV
   go_simp
   exact gl
 refine⟨?_,?_⟩
 . intros;apply ol;go_simp;exact gl
 refine⟨?_,?_⟩
 . intro w' hR _ hP
   apply ol
   have hP:VP L 2 w':=hP
   go_simp
   refine(xI hP).mono ?_
   rintro e w'' ⟨st,rfl,h1,h2⟩
   exact⟨_,rfl,⟨h2,h1⟩,st,rfl⟩
 intro x2
 refine⟨?_,?_⟩
 . intro w' hR _
   apply ol
   obtain⟨y0,y1,y2,y3,y4,y5,y6,y7,y8⟩:=(v1.grown ((Below.refl _ _).drew)).only hR tV
   go_simp
   exact gl
 refine⟨?_,?_⟩
 . intros;apply ol;go_simp;exact gl
 refine⟨?_,?_⟩
 . intro w' hR _ hP
   apply ol
   have hP:VP L 3 w':=hP
   go_simp
   refine(xH hP).mono ?_
   rintro e w'' ⟨st,rfl,h1,h2⟩
   exact⟨_,rfl,⟨h2,h1⟩,st,rfl⟩
 intro x3
 refine⟨?_,?_⟩
 . intro w' hR _
   apply ol
   go_simp
   exact⟨ZY _ _,_,rfl,by have:=hR.size;rw[show W.drew.heap.size=W.heap.size from rfl] at this;omega,At.new w' 37 [.int .i64 0,.int .u64 0,.int .i64 0,.int .i64 0]⟩
 intro p0
 refine⟨?_,?_⟩
 . intro w' hR _
   apply ol
   go_simp
   exact⟨ZY _ _,_,rfl,by have:=hR.size;rw[show W.drew.heap.size=W.heap.size from rfl] at this;omega,At.new w' 37 [.int .i64 0,.int .u64 0,.int .i64 0,.int .i64 0]⟩
 intro p1
 refine⟨?_,?_⟩
 . intro w' hR _
   apply ol
   go_simp
   exact⟨ZY _ _,_,rfl,by have:=hR.size;rw[show W.drew.heap.size=W.heap.size from rfl] at this;omega,At.new w' 37 [.int .i64 0,.int .u64 0,.int .i64 0,.int .i64 0]⟩
 intro p2
 refine⟨?_,?_⟩
 . intro w' hR _
   apply ol
   go_simp
   exact⟨ZY _ _,_,rfl,by have:=hR.size;rw[show W.drew.heap.size=W.heap.size from rfl] at this;omega,At.new w' 37 [.int .i64 0,.int .u64 0,.int .i64 0,.int .i64 0]⟩
 intro p3
 intro w5 hR hP facts hne
 obtain⟨⟨Xd,rfl,gK,ad⟩,⟨Xc,rfl,gJ,ac⟩,⟨Xb,rfl,gI,ab⟩,⟨Xa,rfl,gG,aa⟩,⟨oN,rfl⟩,⟨st2,rfl⟩,⟨st1,rfl⟩,⟨st0,rfl⟩,-⟩:=facts
 have nab:Xa≠Xb:=fun e=>hne (12,4) (by simp) (13,5) (by simp) (by decide) (by subst e;simp[Act.eval])
 have gB:Xa≠Xc:=fun e=>hne (12,4) (by simp) (14,6) (by simp) (by decide) (by subst e;simp[Act.eval])
 have gz:Xa≠Xd:=fun e=>hne (12,4) (by simp) (15,7) (by simp) (by decide) (by subst e;simp[Act.eval])
 have gy:Xb≠Xa:=fun e=>hne (13,5) (by simp) (12,4) (by simp) (by decide) (by subst e;simp[Act.eval])
 have gu:Xb≠Xc:=fun e=>hne (13,5) (by simp) (14,6) (by simp) (by decide) (by subst e;simp[Act.eval])
 have gq:Xb≠Xd:=fun e=>hne (13,5) (by simp) (15,7) (by simp) (by decide) (by subst e;simp[Act.eval])
 have gp:Xc≠Xa:=fun e=>hne (14,6) (by simp) (12,4) (by simp) (by decide) (by subst e;simp[Act.eval])
 have gm:Xc≠Xb:=fun e=>hne (14,6) (by simp) (13,5) (by simp) (by decide) (by subst e;simp[Act.eval])
 have fZ:Xc≠Xd:=fun e=>hne (14,6) (by simp) (15,7) (by simp) (by decide) (by subst e;simp[Act.eval])
 have fV:Xd≠Xa:=fun e=>hne (15,7) (by simp) (12,4) (by simp) (by decide) (by subst e;simp[Act.eval])
 have lN:Xd≠Xb:=fun e=>hne (15,7) (by simp) (13,5) (by simp) (by decide) (by subst e;simp[Act.eval])
 have fU:Xd≠Xc:=fun e=>hne (15,7) (by simp) (14,6) (by simp) (by decide) (by subst e;simp[Act.eval])
 have fQ:=aa.at0 0 rfl
 have fP:=aa.at0 1 rfl
 have fO:=aa.at0 2 rfl
 have fM:=aa.at0 3 rfl
 have af:=aa.fz
 have bx0:=ab.at0 0 rfl
 have bx1:=ab.at0 1 rfl
 have fK:=ab.at0 2 rfl
 have fJ:=ab.at0 3 rfl
 have bf:=ab.fz
 have fH:=ac.at0 0 rfl
 have fG:=ac.at0 1 rfl
 have fF:=ac.at0 2 rfl
 have fE:=ac.at0 3 rfl
 have cf:=ac.fz
 have fC:=ad.at0 0 rfl
 have fB:=ad.at0 1 rfl
 have fA:=ad.at0 2 rfl
 have eY:=ad.at0 3 rfl
 have df:=ad.fz
 have b5:Below w.heap.size w w5:=UA (grow bW ((Below.refl _ _).drew)) hR l1
 have hwz:w.heap.size<=Sz:=by have:=bW.size;omega
 have ha':w.heap.size<=Xa:=by omega
 have hb':w.heap.size<=Xb:=by omega
 have hc':w.heap.size<=Xc:=by omega
 have hd':w.heap.size<=Xd:=by omega
 clear hP hR hne k1 v1 bW tV Dh tN hSz
 go_wp2
 go_ret
 refine⟨rfl,?_⟩
 exact Z7 (Z7 (Z7 (Z7 (Z7 (Z7 (Z7 (Z7 (Z7 (Z7 (Z7 (Z7 (Z7 (Z7 (Z7 (Z7 (b5) ha' _ _) ha' _ _) ha' _ _) ha' _ _) hb' _ _) hb' _ _) hb' _ _) hb' _ _) hc' _ _) hc' _ _) hc' _ _) hc' _ _) hd' _ _) hd' _ _) hd' _ _) hd' _ _
end
section
def TL (K Jm:Nat) (L:Loc) (J M:Nat) (z:Nat->Bool) (w:World):Prop:=∃ s σ q pn h jb F u ts,Rest 4 30 L K Jm J w s σ q pn h jb 0 F u ts/\h.H 0=65536/\σ<=M/\∀ i:Nat,i<8->(u.S σ (i:Int)↔z i=true)
section
variable {K Jm J J' M M':Nat} {L:Loc} {w w':World} {z z':Nat->Bool}
theorem TL.only {S:Nat->Prop} (A:TL K Jm L J M z w) (o:Only S w w') (hs:∀ x,L.has x->¬ S x):TL K Jm L J M z w':=by
 obtain⟨s,σ,q,pn,h,jb,F,u,ts,R,k⟩:=A
 exact⟨s,σ,q,pn,h,jb,F,u,ts,⟨R.mm.only o hs,R.vl,R.lc,R.nn,R.room,R.hJ,R.pn,R.td,R.od⟩,k⟩
theorem TL.grown (A:TL K Jm L J M z w) (g:Below w.heap.size w w'):TL K Jm L J M z w':=by
 obtain⟨s,σ,q,pn,h,jb,F,u,ts,R,k⟩:=A
 exact⟨s,σ,q,pn,h,jb,F,u,ts,⟨R.mm.below g,R.vl,R.lc,R.nn,R.room,R.hJ,R.pn,R.td,R.od⟩,k⟩
theorem TL.lt (A:TL K Jm L J M z w) {x:Nat} (hx:L.has x):x<w.heap.size:=by
 obtain⟨s,σ,q,pn,h,jb,F,u,ts,R,k⟩:=A
 exact R.mm.lt x hx
theorem TL.up (A:TL K Jm L J M z w) (hJ:J<=J') (hM:M<=M'):TL K Jm L J' M' z w:=by
 obtain⟨s,σ,q,pn,h,jb,F,u,ts,R,e1,e2,e3⟩:=A
 exact⟨s,σ,q,pn,h,jb,F,u,ts,⟨R.mm,R.vl,R.lc,R.nn,R.room,Nat.le_trans R.hJ hJ,R.pn,R.td,R.od⟩,e1,Nat.le_trans e2 hM,e3⟩
theorem TL.as (A:TL K Jm L J M z w) (e:∀ i,i<8->z i=z' i):TL K Jm L J M z' w:=by
 obtain⟨s,σ,q,pn,h,jb,F,u,ts,R,e1,e2,e3⟩:=A
 exact⟨s,σ,q,pn,h,jb,F,u,ts,R,e1,e2,fun i hi=>by rw[e3 i hi,e i hi]⟩
def DT (z:Nat->Bool) (kd:Int) (k:Nat):Nat->Bool:=if kd=1 then z else upd z k (decide (kd=2))
theorem zH {k:Nat}:DT z 1 k=z:=if_pos rfl
theorem zI {k:Nat}:DT z 2 k=upd z k true:=if_neg (by decide)
theorem uo {k:Nat}:DT z 3 k=upd z k false:=if_neg (by decide)
theorem TL.ask (A:TL K Jm L J M z w) (hJ:J+1<=Jm) (wE:Jm<=97) (hJ':J<=25) (hM:M+1950<1000000) (hK4:K<4) {kd v:Int} {k:Nat} {b:Bool} (hk:kd=1\/kd=2\/kd=3) (k1:k<8) (hz:z k=b) (hv:(if b=decide (kd≠2) then 1 else 0)=v) (hz':DT z kd k=z') :
 Calls Tryz.prog 11 #[KC 4 30 12 40 100 600 3 L.p K,.int .u64 65536,iV kd,iV k] w fun e w'=>∃ st:Nat,e=.returned (.agg #[iV 0,.int .u64 0,iV v,iV st])/\Only L.has w w'/\TL K Jm L (J+(if kd=2 then 1 else 0)) (M+1950) z' w':=by
 obtain⟨s,σ,q,pn,h,jb,F,u,ts,R,e1,e2,e3⟩:=A
 refine(I4 (kd:=kd) (key:=k) R (Pz (n:=30) (by decide) (by decide)) (by decide) hJ wE (by decide) hK4 hK4 (by omega) hk (by omega) (by omega) e1).mono ?_
 rintro e w' ⟨E,v',st,s',σ',q',YT,h',PV,F',u',ts',rfl,R',fin,-,hs,on,hH⟩
 have hj':J+(if kd=2 then 1 else 0)<=J+1:=Nat.add_le_add_left (by split <;> decide) _
 have E0:E=0:=by
  refine Classical.byContradiction fun hE=>?_
  exact R'.e7 hK4 (by omega) (fin.no hE).2.2.2.1
 obtain⟨f1,f2⟩:=fin.yes E0
 have ek:=e3 k k1
 rw[hz] at ek
 subst E0
 have ev:v'=v:=by
  rw[<- hv]
  rcases f1 with⟨a,b'⟩ | ⟨a,b'⟩
  . rw[a,if_pos]
    by_cases c:kd=2
    . rw[decide_eq_false (fun h=>h c)]
      cases hb:b with
      | false=>rfl
      | true=>exact absurd c (b'.1 (ek.2 hb))
    . rw[decide_eq_true c];exact ek.1 (b'.2 c)
  . rw[a,if_neg]
    intro hb
    refine b' ⟨fun e c=>?_,fun c=>?_⟩
    . rw[ek.1 e,decide_eq_false (fun h=>h c)] at hb;cases hb
    . rw[decide_eq_true c] at hb;exact ek.2 hb
 refine⟨st,by rw[ev],on,s',σ',q',YT,h',PV,F',u',ts',R',hH,by omega,fun i hi=>?_⟩
 rw[f2 i (by omega),<- hz']
 unfold DT
 by_cases c1:kd=1
 . rw[if_pos c1,if_neg (fun h=>h.1 c1)];exact e3 i hi
 . rw[if_neg c1]
   by_cases c2:i=k
   . rw[if_pos ⟨c1,by rw[c2]⟩,c2,upd_same]
     exact⟨fun h=>decide_eq_true h,fun h=>of_decide_eq_true h⟩
   . rw[if_neg (fun h=>c2 (by have:=h.2;omega)),Z9 _ _ _ _ c2];exact e3 i hi
end
def XB (w:World) (b:Nat) (c0 c1 c2 c3 c4 c5 c6:Int) (P:Nat) (who:Int):Prop :=
 w.heap[b]?=some (.cells #[iV c0,iV c1,iV c2,iV c3,iV c4,iV c5,iV c6,pP P 0,iV who] 27 (0,0))
section
variable {w w':World} {b P:Nat} {c0 c1 c2 c3 c4 c5 c6 who:Int}
theorem XB.v (h:XB w b c0 c1 c2 c3 c4 c5 c6 P who):ZM w b c0 c1 c2 c3 c4 c5 c6 P who :=
 ⟨ZW h rfl,ZW h rfl,ZW h rfl,ZW h rfl,ZW h rfl,ZW h rfl,ZW h rfl,ZW h rfl,ZW h rfl⟩
theorem XB.fz (h:XB w b c0 c1 c2 c3 c4 c5 c6 P who) (o:Nat):w.frozen? ⟨b,o,none⟩=false:=Yz h o
theorem XB.grown (h:XB w b c0 c1 c2 c3 c4 c5 c6 P who) (g:Below w.heap.size w w'):XB w' b c0 c1 c2 c3 c4 c5 c6 P who:=(g.block _ (Xp h)).trans h
theorem XB.only {S:Nat->Prop} (h:XB w b c0 c1 c2 c3 c4 c5 c6 P who) (g:Only S w w') (hs:¬ S b):XB w' b c0 c1 c2 c3 c4 c5 c6 P who:=(g.block _ (Xp h) hs).trans h
theorem XB.set (h:XB w b c0 c1 c2 c3 c4 c5 c6 P who) (x:Int):XB (w.setCell ⟨b,8,none⟩ (iV x)) b c0 c1 c2 c3 c4 c5 c6 P x:=ZV _ _ _ _ _ _ h
end
end
section
def Qw (L:Loc) (E Wb Db:Nat) (ts:Nat->Option (Cl × Option Rs)) (lb:Nat->Nat) (rn:Nat->Option Rn):Nat->Nat->Prop
 | 0,x=>L.has x
 | 1,x=>x=E
 | 2,x=>x=Wb
 | 3,x=>x=Db
 | a+4,x=>ts a≠none/\UC (lb a) (rn a) x
structure zn (w0 w:World) (L:Loc) (E Wb Db:Nat) (who:Int) (s:Mm) (σ:Nat) (q:Q) (pn:Nat->Int) (h:Gh) (jb:Nat->Jb) (F:List Nat) (u:Hi) (ts:Nat->Option (Cl × Option Rs)) (lb:Nat->Nat) (rn:Nat->Option Rn) (ph:Nat->Nat) (dn:Nat->Bool):Prop where
 mm:Z5 w L s
 vl:VC 4 30 12 40 s σ q pn
 lc:Lc 4 30 12 40 q σ h jb 0 F u ts
 v:XB w E 4 30 12 40 100 600 3 L.p who
 bw:Below w0.heap.size w0 w
 ar:w.rowIs Wb 65 4 (fun a=>.pointer (some ⟨lb a,0,none⟩))
 dr:w.rowIs Db 66 4 (fun a=>.bool (dn a))
 cal:∀ a C rs,ts a=some (C,rs)->∃ S,Cal 4 30 12 40 w L σ q pn h 0 a (jb a) C rs S (lb a) (rn a) (ph a)
 pz:∀ K,ts K=none->pn K=0
 hH:h.H 0=65536
 n4:∀ K,4<=K->ts K=none
 lt:∀ i x,Qw L E Wb Db ts lb rn i x->x<w.heap.size
 ap:∀ i j x,Qw L E Wb Db ts lb rn i x->Qw L E Wb Db ts lb rn j x->i=j
 ge:∀ i x,Qw L E Wb Db ts lb rn i x->w0.heap.size<=x
theorem Vd {w a b:World} {S:Nat->Prop} (h:Below w.heap.size w a) (o:Only S a b) (hc:∀ k,S k->w.heap.size<=k):Below w.heap.size w b :=
 h.trans (o.below h.size (fun k hk hs=>by have:=hc k hs;omega))
theorem Cal.zl {t n k m σ:Nat} {w w':World} {L:Loc} {q:Q} {pn:Nat->Int} {h:Gh} {hd K:Nat} {bj:Jb} {C:Cl} {r:Option Rs} {S:Lr} {b:Nat} {a:Option Rn} {ph:Nat} {P:Nat->Prop} (c:Cal t n k m w L σ q pn h hd K bj C r S b a ph) (o:Only P w w') (hn:∀ x,UC b a x->¬ P x):Cal t n k m w' L σ q pn h hd K bj C r S b a ph :=
 ⟨c.lr.only o (hn b (Or.inl rfl)),c.ok,c.is,c.bd,c.nb,c.pk,c.p4,c.no,fun R e=>by obtain⟨h1,h2⟩:=c.th R e;exact⟨h1.only o (fun x hx=>hn x (Or.inr ⟨R,e,hx⟩)),h2⟩⟩
theorem Cal.wX {t n k m σ:Nat} {w w':World} {L:Loc} {q q':Q} {pn YT:Nat->Int} {h h':Gh} {hd K a:Nat} {jb:Nat->Jb} {b':Jb} {C:Cl} {r:Option Rs} {S:Lr} {b:Nat} {rn:Option Rn} {ph:Nat} {P:Nat->Prop} (c:Cal t n k m w L σ q pn h hd a (jb a) C r S b rn ph) (M:WC t n k m q σ h jb) (M':WC t n k m q' (σ+1) h' (upd jb K b')) (hne:a≠K) (hJ:h.J<=h'.J) (nd:∀ j,j<h.J->h'.nd j=h.nd j) (hp:YT a=pn a) (o:Only P w w') (hn:∀ x,UC b rn x->¬ P x):Cal t n k m w' L (σ+1) q' YT h' hd a (jb a) C r S b rn ph:=by
 have ok:=M.jk a
 have ok':=M'.jk a
 rw[Z9 _ _ _ _ hne] at ok'
 refine⟨c.lr.only o (hn b (Or.inl rfl)),c.ok,c.is.on c.bd nd,c.bd.up hJ,c.nb,by rw[hp];exact c.pk,c.p4,fun e=>?_,fun R e=>?_⟩
 . obtain⟨e1,e2,e3⟩:=c.no e
   exact⟨e1,e2,e3.trans (xG c.bd nd).symm⟩
 . obtain⟨th,sg,nB,dc⟩:=c.th R e
   exact⟨(th.only o (fun x hx=>hn x (Or.inr ⟨R,e,hx⟩))).on sg (Nat.le_succ _) ok',sg.on ok nd,nB,dc⟩
section
variable {w0 w w':World} {L:Loc} {E Wb Db σ K:Nat} {who:Int} {s:Mm} {q:Q} {pn:Nat->Int} {h:Gh} {jb:Nat->Jb} {F:List Nat} {u:Hi} {ts:Nat->Option (Cl × Option Rs)} {lb:Nat->Nat} {rn:Nat->Option Rn} {ph:Nat->Nat} {dn:Nat->Bool}
theorem zn.grown (P:zn w0 w L E Wb Db who s σ q pn h jb F u ts lb rn ph dn) (g:Below w.heap.size w w'):zn w0 w' L E Wb Db who s σ q pn h jb F u ts lb rn ph dn :=
 ⟨P.mm.below g,P.vl,P.lc,P.v.grown g,grow P.bw g,P.ar.of_block (g.block _ P.ar.lt),P.dr.of_block (g.block _ P.dr.lt),fun a C rs e=>by obtain⟨S,h2⟩:=P.cal a C rs e;exact⟨S,h2.zl (P:=fun _=>False) (Only.ZZ g) (fun _ _=>id)⟩,P.pz,P.hH,P.n4,fun i x e=>Nat.lt_of_lt_of_le (P.lt i x e) g.size,P.ap,P.ge⟩
theorem zn.alt (P:zn w0 w L E Wb Db who s σ q pn h jb F u ts lb rn ph dn) {i0:Nat} (h1:i0=1\/i0=3) (o:Only (Qw L E Wb Db ts lb rn i0) w w') {who':Int} {vS:Nat->Bool} (ev:if i0=1 then XB w' E 4 30 12 40 100 600 3 L.p who' else who'=who) (ed:if i0=3 then w'.rowIs Db 66 4 (fun a=>.bool (vS a)) else vS=dn) :
 zn w0 w' L E Wb Db who' s σ q pn h jb F u ts lb rn ph vS:=by
 have no:∀ i x,i≠i0->Qw L E Wb Db ts lb rn i x->¬ Qw L E Wb Db ts lb rn i0 x:=fun i x hi hx hh=>hi (P.ap i i0 x hx hh)
 refine⟨P.mm.only o (fun x hx=>no 0 x (by omega) hx),P.vl,P.lc,?_,Vd P.bw o (fun x hx=>P.ge i0 x hx),P.ar.of_block (o.block _ P.ar.lt (no 2 _ (by omega) rfl)),?_,fun a C rs e=>?_,P.pz,P.hH,P.n4,fun i x e=>Nat.lt_of_lt_of_le (P.lt i x e) o.size,P.ap,P.ge⟩
 . by_cases e:i0=1
   . rw[if_pos e] at ev;exact ev
   . rw[if_neg e] at ev;rw[ev];exact P.v.only o (no 1 _ (fun h=>e h.symm) rfl)
 . by_cases e:i0=3
   . rw[if_pos e] at ed;exact ed
   . rw[if_neg e] at ed;rw[ed];exact P.dr.of_block (o.block _ P.dr.lt (no 3 _ (fun h=>e h.symm) rfl))
 . obtain⟨S,k2⟩:=P.cal a C rs e
   exact⟨S,k2.zl o (fun x hx=>no (a+4) x (by omega) ⟨by rw[e];simp,hx⟩)⟩
end
def Qx (w0 w:World) (L:Loc) (E Wb Db:Nat) (who:Int) (kd:Int) (k M:Nat) (lb:Nat->Nat) (dn al:Nat->Bool) (Zi V:Nat):Prop :=
 ∃ s σ q pn h jb F u ts rn ph σ0,zn w0 w L E Wb Db who s σ q pn h jb F u ts lb rn ph dn/\IV kd k σ0 σ q h jb F u ts ph Zi V/\σ<=M/\∀ a,a<4->(al a=true↔ts a≠none)
section
variable {w0 w w':World} {L:Loc} {E Wb Db K k M:Nat} {kd who:Int} {lb:Nat->Nat} {dn al:Nat->Bool} {Zi V:Nat}
theorem Qx.grown (A:Qx w0 w L E Wb Db who kd k M lb dn al Zi V) (g:Below w.heap.size w w'):Qx w0 w' L E Wb Db who kd k M lb dn al Zi V:=by
 obtain⟨s,σ,q,pn,h,jb,F,u,ts,rn,ph,σ0,P,S⟩:=A
 exact⟨s,σ,q,pn,h,jb,F,u,ts,rn,ph,σ0,P.grown g,S⟩
theorem Qx.xQ (A:Qx w0 w L E Wb Db who kd k M lb dn al Zi V) (x:Int):Qx w0 (w.setCell ⟨E,8,none⟩ (iV x)) L E Wb Db x kd k M lb dn al Zi V:=by
 obtain⟨s,σ,q,pn,h,jb,F,u,ts,rn,ph,σ0,P,S⟩:=A
 exact⟨s,σ,q,pn,h,jb,F,u,ts,rn,ph,σ0,P.alt (i0:=1) (Or.inl rfl) ((Only.refl (fun y=>y=E) w).setCell (a:=⟨E,8,none⟩) (fun _=>rfl) _) (by rw[if_pos rfl];exact P.v.set x) (by rw[if_neg (by decide)]),S⟩
theorem Qx.uh (A:Qx w0 w L E Wb Db who kd k M lb dn al Zi V) (K:Nat) (x:Bool):Qx w0 (w.setCell ⟨Db,K,none⟩ (.bool x)) L E Wb Db who kd k M lb (upd dn K x) al Zi V:=by
 obtain⟨s,σ,q,pn,h,jb,F,u,ts,rn,ph,σ0,P,S⟩:=A
 refine⟨s,σ,q,pn,h,jb,F,u,ts,rn,ph,σ0,P.alt (i0:=3) (Or.inr rfl) ((Only.refl (fun y=>y=Db) w).setCell (a:=⟨Db,K,none⟩) (fun _=>rfl) _) (by rw[if_neg (by decide)]) ?_,S⟩
 rw[if_pos rfl]
 exact(P.dr.set K (.bool x)).congr fun j _=>by
  by_cases e:j=K
  . rw[if_pos e,e,upd_same]
  . rw[if_neg e,Z9 _ _ _ _ e]
theorem Qx.v (A:Qx w0 w L E Wb Db who kd k M lb dn al Zi V):XB w E 4 30 12 40 100 600 3 L.p who:=by
 obtain⟨s,σ,q,pn,h,jb,F,u,ts,rn,ph,σ0,P,S⟩:=A
 exact P.v
theorem Qx.ar (A:Qx w0 w L E Wb Db who kd k M lb dn al Zi V):w.rowIs Wb 65 4 (fun a=>.pointer (some ⟨lb a,0,none⟩)):=by
 obtain⟨s,σ,q,pn,h,jb,F,u,ts,rn,ph,σ0,P,S⟩:=A
 exact P.ar
theorem Qx.dr (A:Qx w0 w L E Wb Db who kd k M lb dn al Zi V):w.rowIs Db 66 4 (fun a=>.bool (dn a)):=by
 obtain⟨s,σ,q,pn,h,jb,F,u,ts,rn,ph,σ0,P,S⟩:=A
 exact P.dr
theorem Qx.bw (A:Qx w0 w L E Wb Db who kd k M lb dn al Zi V):Below w0.heap.size w0 w:=by
 obtain⟨s,σ,q,pn,h,jb,F,u,ts,rn,ph,σ0,P,S⟩:=A
 exact P.bw
theorem Qx.step (A:Qx w0 w L E Wb Db K kd k M lb dn al Zi V) (hkd:kd=2\/kd=3) (k8:k<=8) (hK:K<4) (ha:al K=true) (hM:M<1000000) :
 Calls Tryz.prog 15 #[.pointer (some ⟨lb K,0,none⟩),KC 4 30 12 40 100 600 3 L.p K] w fun e w'=>∃ d,e=.returned (.bool d)/\1<=V/\Only (fun x=>∃ i,i≠1/\i≠2/\i≠3/\x<w.heap.size/\∃ ts rn,(∀ j x,Qw L E Wb Db ts lb rn j x->x<w.heap.size)/\(∀ j j' x,Qw L E Wb Db ts lb rn j x->Qw L E Wb Db ts lb rn j' x->j=j')/\Qw L E Wb Db ts lb rn i x) w w'/\((d=false/\Qx w0 w' L E Wb Db K kd k (M+1) lb dn al Zi (V - 1))\/(d=true/\∃ (b st:Nat) (S2:Lr),ZH w' (lb K) (.pointer none) S2/\S2.kd≠0/\S2.nx=13/\S2.cE=0/\S2.cH=0/\S2.cV=(b:Nat)/\S2.cS=(st:Nat)/\lb K≠Db/\Qx w0 w' L E Wb Db K kd k (M+1) lb dn (upd al K false) (Zi+b) (V - 1))):=by
 obtain⟨s,σ,q,pn,h,jb,F,u,ts,rn,ph,σ0,P,O0,hσ,hal⟩:=A
 have hG:Good 4 30 12 40 100 600 3:=Pz (by decide) (by decide)
 have hJ:=O0.lH
 obtain⟨⟨C,rs⟩,hts⟩:∃ y,ts K=some y:=by
  cases e:ts K with
  | none=>exact absurd e ((hal K hK).1 ha)
  | some y=>exact⟨y,rfl⟩
 obtain⟨S,hc⟩:=P.cal K C rs hts
 have hV1:=O0.pos hK hts hc.p4
 have BD:∀ K C rs,ts K=some (C,rs)->C.bd h.J 0:=fun K C rs e=>by
  obtain⟨S,c⟩:=P.cal K C rs e
  exact c.bd
 refine(P.lc.zG P.mm P.vl hG (by decide) (by omega) (by omega) (by omega) (by omega) (by omega) hts hc).mono ?_
 rintro e w' ⟨s',h',q',u',F',C1,r1,b1,YT,Yk,Q1,O⟩
 have act:∀ {x},UC (lb K) (rn K) x->Qw L E Wb Db ts lb rn (K+4) x:=fun hx=>⟨by rw[hts];simp,hx⟩
 have nR:Only (fun x=>∃ i,i≠1/\i≠2/\i≠3/\x<w.heap.size/\∃ ts rn,(∀ j x,Qw L E Wb Db ts lb rn j x->x<w.heap.size)/\(∀ j j' x,Qw L E Wb Db ts lb rn j x->Qw L E Wb Db ts lb rn j' x->j=j')/\Qw L E Wb Db ts lb rn i x) w w':=Q1.on.mono (fun x hx hh=>by
  rcases hh with hh | hh
  . exact⟨0,by decide,by decide,by decide,hx,ts,rn,P.lt,P.ap,hh⟩
  . exact⟨K+4,by omega,by omega,by omega,hx,ts,rn,P.lt,P.ap,act hh⟩)
 have no:∀ i x,i≠0->i≠K+4->Qw L E Wb Db ts lb rn i x->¬ (L.has x\/UC (lb K) (rn K) x):=fun i x h1 h2 h3 h4=>by
  rcases h4 with h4 | h4
  . exact h1 (P.ap i 0 x h3 h4)
  . exact h2 (P.ap i (K+4) x h3 (act h4))
 obtain⟨hJ',nd⟩:=Q1.go.nd
 have sm:=Q1.go.same
 have hH':h'.H 0=65536:=(UD nd hc.bd.h).trans P.hH
 have qX:∀ a,a≠K->YT a=pn a:=fun a ha=>by
  rcases Q1.pn with⟨e,-⟩ | ⟨e,-⟩ | ⟨e,-⟩
  . rw[e]
  . rw[e,Z9 _ _ _ _ ha]
  . rw[e,Z9 _ _ _ _ ha]
 have Sg:=O0.go (by decide) hK hG (by decide) (by decide) P.lc Q1.lc hts hc.is BD hc.p4 Q1.go Q1.q1 Q1.q2 Q1.q3
 -- all of it but the one that was picked
 have nP:∀ (sG:Nat->Jb) (x2:Option (Cl × Option Rs)) (vP:Option Rn) (nO:Nat),Lc 4 30 12 40 q' (σ+1) h' sG 0 F' u' (upd ts K x2)->(∀ a,a≠K->sG a=jb a)->(∀ C2 r2,x2=some (C2,r2)->∃ S2,Cal 4 30 12 40 w' L (σ+1) q' YT h' 0 K (sG K) C2 r2 S2 (lb K) vP nO)->(x2=none->YT K=0)->(∀ x,x2≠none->UC (lb K) vP x->UC (lb K) (rn K) x\/(w.heap.size<=x/\x<w'.heap.size))->zn w0 w' L E Wb Db K s' (σ+1) q' YT h' sG F' u' (upd ts K x2) lb (upd rn K vP) (upd ph K nO) dn:=fun sG x2 vP nO X2 hjb nN hpz hown=>by
  have pt:∀ i x,Qw L E Wb Db (upd ts K x2) lb (upd rn K vP) i x->Qw L E Wb Db ts lb rn i x\/(i=K+4/\w.heap.size<=x/\x<w'.heap.size):=fun i x hp=>by
   match i,hp with
   | 0,hp=>exact Or.inl hp
   | 1,hp=>exact Or.inl hp
   | 2,hp=>exact Or.inl hp
   | 3,hp=>exact Or.inl hp
   | a+4,hp =>
    have hp:upd ts K x2 a≠none/\UC (lb a) (upd rn K vP a) x:=hp
    by_cases e:a=K
    . subst e
      rw[upd_same,upd_same] at hp
      rcases hown x hp.1 hp.2 with h | h
      . exact Or.inl (act h)
      . exact Or.inr ⟨rfl,h⟩
    . rw[Z9 _ _ _ _ e,Z9 _ _ _ _ e] at hp;exact Or.inl hp
  refine⟨Q1.mm,Q1.vl,X2,P.v.only Q1.on (no 1 E (by decide) (by omega) rfl),Vd P.bw Q1.on (fun x hx=>hx.elim (fun h=>P.ge 0 x h) (fun h=>P.ge (K+4) x (act h))),P.ar.of_block (Q1.on.block _ P.ar.lt (no 2 _ (by decide) (by omega) rfl)),P.dr.of_block (Q1.on.block _ P.dr.lt (no 3 _ (by decide) (by omega) rfl)),fun a C2 r2 e=>?_,fun a e=>?_,hH',fun a h3=>?_,fun i x hp=>?_,fun i j x k1 k2=>?_,fun i x hp=>?_⟩
  . by_cases ea:a=K
    . subst ea
      rw[upd_same] at e
      rw[upd_same,upd_same]
      exact nN C2 r2 e
    . rw[Z9 _ _ _ _ ea] at e
      rw[Z9 _ _ _ _ ea,Z9 _ _ _ _ ea,hjb a ea]
      obtain⟨S3,k2⟩:=P.cal a C2 r2 e
      exact⟨S3,k2.wX P.lc.m Q1.lc.m ea hJ' nd (qX a ea) Q1.on (fun x hx=>no (a+4) x (by omega) (by omega) ⟨by rw[e];simp,hx⟩)⟩
  . by_cases ea:a=K
    . rw[ea,upd_same] at e;rw[ea];exact hpz e
    . rw[Z9 _ _ _ _ ea] at e;rw[qX a ea];exact P.pz a e
  . rw[Z9 _ _ _ _ (by omega)];exact P.n4 a h3
  . rcases pt i x hp with h | ⟨-,-,h⟩
    . exact Nat.lt_of_lt_of_le (P.lt i x h) Q1.on.size
    . exact h
  . rcases pt i x k1 with k1 | ⟨rfl,k1,-⟩
    . rcases pt j x k2 with k2 | ⟨rfl,k2,-⟩
      . exact P.ap i j x k1 k2
      . have:=P.lt i x k1;omega
    . rcases pt j x k2 with k2 | ⟨rfl,k2,-⟩
      . have:=P.lt j x k2;omega
      . rfl
  . rcases pt i x hp with h | ⟨-,h,-⟩
    . exact P.ge i x h
    . have:=P.bw.size;omega
 have hal2:∀ y:Cl × Option Rs,∀ a,a<4->(al a=true↔upd ts K (some y) a≠none):=fun y a h4=>by
  by_cases e:a=K
  . rw[e,upd_same,ha];simp
  . rw[Z9 _ _ _ _ e];exact hal a h4
 rcases O with⟨n5,e1,a',hc',hB⟩ | ⟨p5,pk,R,S2,C2,hr,N,lr2,I2,O⟩
 . refine⟨false,e1,hV1,nR,Or.inl ⟨rfl,s',_,q',YT,h',_,F',u',_,_,_,σ0,nP _ _ (some a') Yk Q1.lc (fun a ha=>Z9 _ _ _ _ ha) (fun C2 r2 e=>?_) (fun e=>by cases e) (fun x _ hx=>?_),Sg,by omega,hal2 _⟩⟩
   . injection e with e
     injection e with e2 e3
     subst e2 e3
     exact⟨S,by rw[upd_same];exact hc'⟩
   . rcases hx with hx | ⟨R,e,hR⟩
     . exact Or.inl (Or.inl hx)
     . injection e with e
       subst e
       exact hB x hR
 . subst hr p5
   have KA:upd ts K (some (C1,some R)) K=some (C1,some R):=upd_same _ _ _
   have T1:=Q1.lc.t K C1 _ KA
   obtain⟨I1,-⟩:=hc.is.go1 hc.bd Q1.go
   have oP:=N.same
   rcases O with⟨E2,v,st,e1,e2,rfl⟩ | ⟨G,ho,rfl,X2,hc2⟩
   . have ip:=I2.po
     rw[e1] at ip
     obtain⟨i1,i2,i3,i4,i5⟩:=ip
     have hkk:S2.kd≠0:=by have h1:=I2.kd;have h2:=I2.k13;omega
     obtain⟨E0,b,-,hb,D1⟩:=Sg.done hkd hK Q1.lc KA e2
     have X3:=Q1.lc.end_ (K:=K) (T1.told R rfl).1
     rw[XI] at X3 D1
     refine⟨true,rfl,hV1,nR,Or.inr ⟨rfl,b,st,S2,lr2,hkk,i1,i2.trans E0,i3,i4.trans hb,i5,fun e=>?_,s',_,q',YT,h',_,F',u',_,_,_,σ0,nP _ none none 5 X3 (fun a ha=>Z9 _ _ _ _ ha) (fun C2 r2 e=>by cases e) (fun _=>pk) (fun x h _=>absurd rfl h),D1,by omega,fun a h4=>?_⟩⟩
     . have:=P.ap (K+4) 3 (lb K) (act (Or.inl rfl)) e
       omega
     . by_cases e:a=K
       . rw[e,upd_same,upd_same];simp
       . rw[Z9 _ _ _ _ e,Z9 _ _ _ _ e];exact hal a h4
   . have S3:=Sg.next hK (by omega) Q1.lc KA I1 (upd_same _ _ _) N ho G
     rw[XI,XI,XI] at S3
     refine⟨false,rfl,hV1,nR,Or.inl ⟨rfl,s',_,q',YT,h',_,F',u',_,_,_,σ0,nP _ _ none 0 X2 (fun a ha=>Z9 _ _ _ _ ha) (fun C3 r3 e=>?_) (fun e=>by cases e) (fun x _ hx=>?_),S3,by omega,hal2 _⟩⟩
     . injection e with e
       injection e with e2 e3
       subst e2 e3
       exact⟨S2,by rw[upd_same];exact hc2⟩
     . rcases hx with hx | ⟨R,e,hR⟩
       . exact Or.inl (Or.inl hx)
       . cases e
end
end
section
section
variable {w0 w:World} {L:Loc} {E Wb Db J M k σ:Nat} {who kd:Int} {z:Nat->Bool} {lb:Nat->Nat} {dn al:Nat->Bool} {Zi V:Nat} {q:Q} {h:Gh} {jb:Nat->Jb} {F:List Nat} {u:Hi} {ts:Nat->Option (Cl × Option Rs)}
theorem Aw (X:Lc 4 30 12 40 q σ h jb 0 F u ts) (hJ:h.J<=60000) (k8:k<8) (hn:∀ K,ts K=none) (m:Nat) (hm:m<=4):Lc 4 30 12 40 q σ h (fun K=>if K<m then Cl.YF h 0 ⟨kd,k,σ,none,.first⟩ else jb K) 0 F u (fun K=>if K<m then some (⟨kd,k,σ,none,.first⟩,none) else ts K):=by
 induction m with
 | zero=>exact X
 | succ m ih =>
  have Y:=(ih (by omega)).start (K:=m) (kd:=kd) (key:=k) (Pz (n:=30) (by decide) (by decide)) (by decide) hJ (by omega) (by simp[hn]) (by omega) (by omega)
  have e1:upd (fun K=>if K<m then Cl.YF h 0 ⟨kd,k,σ,none,.first⟩ else jb K) m (Cl.YF h 0 ⟨kd,k,σ,none,.first⟩)=fun K=>if K<m+1 then Cl.YF h 0 ⟨kd,k,σ,none,.first⟩ else jb K:=funext fun K=>by
   by_cases e:K=m
   . rw[e,upd_same];simp
   . rw[Z9 _ _ _ _ e]
     by_cases c:K<m
     . simp[c,show K<m+1 by omega]
     . simp[c,show ¬ K<m+1 by omega]
  have e2:upd (fun K=>if K<m then some ((⟨kd,k,σ,none,.first⟩:Cl),(none:Option Rs)) else ts K) m (some (⟨kd,k,σ,none,.first⟩,none))=fun K=>if K<m+1 then some ((⟨kd,k,σ,none,.first⟩:Cl),(none:Option Rs)) else ts K:=funext fun K=>by
   by_cases e:K=m
   . rw[e,upd_same];simp
   . rw[Z9 _ _ _ _ e]
     by_cases c:K<m
     . simp[c,show K<m+1 by omega]
     . simp[c,show ¬ K<m+1 by omega]
  rw[e1,e2] at Y
  exact Y
theorem zk (T:Tidy h) (X:Lc 4 30 12 40 q σ h jb 0 F u ts):mkd h F=0:=by
 unfold mkd
 rw[List.countP_eq_zero]
 intro i hi
 have:=T.un X hi
 simp only[decide_eq_true_eq]
 omega
theorem TL.four (A:TL 0 97 L J M z w) (hJ:J<=7) (hkd:kd=2\/kd=3) (k8:k<8) (hz:z k=decide (kd=3)) (v:XB w E 4 30 12 40 100 600 3 L.p who) (bw:Below w0.heap.size w0 w) (ar:w.rowIs Wb 65 4 (fun a=>.pointer (some ⟨lb a,0,none⟩))) (dr:w.rowIs Db 66 4 (fun _=>.bool false)) (lr:∀ a,a<4->ZH w (lb a) (.pointer none) (zF kd k 65536)) (hl:∀ x,L.has x->w0.heap.size<=x/\x<E) (h1:w0.heap.size<=E) (h2:E<Wb) (h3:Wb<Db) (h4:∀ a,a<4->Db<lb a) (h5:∀ a b,a<4->b<4->lb a=lb b->a=b) :
 Qx w0 w L E Wb Db who kd k M lb (fun _=>false) (fun _=>true) 0 4756:=by
 obtain⟨s,σ,q,pn,h,jb,F,u,ts,R,e1,e2,e3⟩:=A
 have X:=R.lc
 obtain⟨T,id⟩:=R.td (by decide)
 have hJ0:=R.hJ
 have X4:=Aw (kd:=kd) X (by omega) k8 (fun K=>(id K).2.1) 4 (by decide)
 obtain⟨tk,O,Fl,nM,-⟩:=R.room
 have hS:u.S σ (k:Int)↔kd=3:=by rw[e3 k k8,hz];exact decide_eq_true_iff
 have hk:kd=1\/kd=2\/kd=3:=Or.inr hkd
 have qP:∀ K C rs,(if K<4 then some ((⟨kd,k,σ,none,.first⟩:Cl),(none:Option Rs)) else ts K)=some (C,rs)->K<4/\C=⟨kd,k,σ,none,.first⟩/\rs=none:=fun K C rs e=>by
  by_cases c:K<4
  . rw[if_pos c] at e
    injection e with e
    injection e with e1 e2
    exact⟨c,e1.symm,e2.symm⟩
  . rw[if_neg c,(id K).2.1] at e;cases e
 have key:∀ i x,Qw L E Wb Db (fun K=>if K<4 then some ((⟨kd,k,σ,none,.first⟩:Cl),(none:Option Rs)) else ts K) lb (fun _=>none) i x->(i=0/\L.has x)\/(i=1/\x=E)\/(i=2/\x=Wb)\/(i=3/\x=Db)\/∃ a,i=a+4/\a<4/\x=lb a:=fun i x hp=>by
  match i,hp with
  | 0,hp=>exact Or.inl ⟨rfl,hp⟩
  | 1,hp=>exact Or.inr (Or.inl ⟨rfl,hp⟩)
  | 2,hp=>exact Or.inr (Or.inr (Or.inl ⟨rfl,hp⟩))
  | 3,hp=>exact Or.inr (Or.inr (Or.inr (Or.inl ⟨rfl,hp⟩)))
  | a+4,hp =>
   refine Or.inr (Or.inr (Or.inr (Or.inr ⟨a,rfl,?_,?_⟩)))
   . by_cases c:a<4
     . exact c
     . exact absurd (by show (if a<4 then _ else ts a)=none;rw[if_neg c];exact(id a).2.1) hp.1
   . rcases hp.2 with e | ⟨R,e,-⟩
     . exact e
     . cases e
 refine⟨s,σ,q,pn,h,_,F,u,_,fun _=>none,fun _=>0,σ,⟨R.mm,R.vl,X4,v,bw,ar,dr,fun a C rs e=>?_,fun K _=>(id K).2.2,e1,fun K hK=>by show (if K<4 then _ else ts K)=none;rw[if_neg (by omega)];exact(id K).2.1,fun i x hp=>?_,fun i j x hi hj=>?_,fun i x hp=>?_⟩,⟨?_,R.od,fun K=>?_,fun K C rs e=>?_,fun K C rs e=>?_,?_,?_,fun s a b e=>?_,Or.inr ⟨?_,?_⟩,fun⟨K,hK,e⟩=>?_,Nat.le_refl _⟩,e2,fun a ha=>?_⟩
 . obtain⟨c,rfl,rfl⟩:=qP a C rs e
   have nb:¬ L.has (lb a):=fun hh=>by have:=(hl _ hh).2;have:=h4 a c;omega
   have:=X.tX (L:=L) (kd:=kd) (key:=k) (K:=a) hk nb (id a).2.2 (by rw[e1];exact lr a c)
   exact⟨_,by show Cal _ _ _ _ _ _ _ _ _ _ _ _ (if a<4 then _ else _) _ _ _ _ _ _;rw[if_pos c];exact this⟩
 . rcases key i x hp with⟨-,e⟩ | ⟨-,rfl⟩ | ⟨-,rfl⟩ | ⟨-,rfl⟩ | ⟨a,-,c,rfl⟩
   . exact R.mm.lt x e
   . exact Xp v
   . exact ar.lt
   . exact dr.lt
   . exact(lr a c).lt
 . have lE:∀ x,L.has x->x<E:=fun x hx=>(hl x hx).2
   rcases key i x hi with⟨rfl,e⟩ | ⟨rfl,e⟩ | ⟨rfl,e⟩ | ⟨rfl,e⟩ | ⟨a,rfl,c,e⟩ <;> rcases key j x hj with⟨rfl,f⟩ | ⟨rfl,f⟩ | ⟨rfl,f⟩ | ⟨rfl,f⟩ | ⟨b,rfl,d,f⟩
   all_goals first
    | rfl
    | (have:=lE x ‹_›;first | omega | (have:=h4 _ ‹_<4›;omega))
    | omega
    | (have:=h4 a c;omega)
    | (have:=h4 b d;omega)
    | (rw[h5 a b c d (e.symm.trans f)])
 . rcases key i x hp with⟨-,e⟩ | ⟨-,rfl⟩ | ⟨-,rfl⟩ | ⟨-,rfl⟩ | ⟨a,-,c,rfl⟩
   . exact(hl x e).1
   . exact h1
   . omega
   . omega
   . have:=h4 a c;omega
 . refine Om.same ⟨tk,O,Fl,nM⟩ rfl rfl (fun K=>?_)
   by_cases c:K<4
   . rw[(id K).1];simp only[c,if_true];rfl
   . simp only[c,if_false]
 . by_cases c:K<4
   . simp only[c,if_true];trivial
   . simp only[c,if_false];rw[(id K).1];trivial
 . obtain⟨c,rfl,rfl⟩:=qP K C rs e
   exact⟨⟨trivial,(fun r e=>by cases e),by simp only[c,if_true];trivial⟩,rfl,rfl,Nat.le_refl _⟩
 . obtain⟨c,rfl,rfl⟩:=qP K C rs e
   exact fun R a s nx e=>by cases e
 . have m1:∀ K,Gt (if K<4 then some ((⟨kd,k,σ,none,.first⟩:Cl),(none:Option Rs)) else ts K) (if K<4 then Cl.YF h 0 ⟨kd,k,σ,none,.first⟩ else jb K)<=1:=fun K=>by
    by_cases c:K<4
    . simp only[c,if_true];exact sQ _ _
    . simp only[c,if_false];rw[(id K).2.1];exact Nat.zero_le _
   rw[OA]
   have:=m1 0;have:=m1 1;have:=m1 2;have:=m1 3
   omega
 . have vl:∀ K C rs,(if K<4 then some ((⟨kd,k,σ,none,.first⟩:Cl),(none:Option Rs)) else ts K)=some (C,rs)->N7 q h 0 C rs 0 (if K<4 then Cl.YF h 0 ⟨kd,k,σ,none,.first⟩ else jb K) 459:=fun K C rs e=>by
    obtain⟨c,rfl,rfl⟩:=qP K C rs e
    refine⟨0,Or.inl ⟨rfl,⟨fun _=>⟨trivial,fun W j v cc ld e=>?_,fun W j v cc e=>?_⟩,fun r e=>by cases e⟩⟩,?_⟩
    . simp only[c,if_true] at e;cases e
    . simp only[c,if_true] at e;cases e
    . simp only[c,if_true];rfl
   have iS:=X.l.S k (by omega)
   rcases hkd with rfl | rfl
   . exact⟨1,fun _=>459,⟨1,by rw[zk T X],Or.inl ⟨rfl,Or.inr ⟨fun c=>absurd (hS.1 (iS.2 c)) (by decide),rfl⟩⟩⟩,vl,by rw[OA];decide⟩
   . exact⟨2,fun _=>459,⟨2,by rw[zk T X],Or.inr ⟨rfl,Or.inl ⟨iS.1 (hS.2 rfl),rfl⟩⟩⟩,vl,by rw[OA];decide⟩
 . rw[show s=σ by omega] at e;exact e
 . rw[hS]
   rcases hkd with rfl | rfl <;> decide
 . rw[OA];rfl
 . have e:(if K<4 then some ((⟨kd,k,σ,none,.first⟩:Cl),(none:Option Rs)) else ts K)=none:=e
   rw[if_pos hK] at e;cases e
 . show (true=true↔(if a<4 then some ((⟨kd,k,σ,none,.first⟩:Cl),(none:Option Rs)) else ts a)≠none)
   rw[if_pos ha];simp
theorem Qx.end_ (A:Qx w0 w L E Wb Db who kd k M lb dn al Zi V) (hn:∀ a,a<4->al a=false):Zi=1/\∃ z,(∀ K,TL K 12 L 11 M z w)/\z k=decide (kd=2):=by
 obtain⟨s,σ,q,pn,h,jb,F,u,ts,rn,ph,σ0,P,O,hσ,hal⟩:=A
 have hts:∀ K,ts K=none:=fun K=>by
  by_cases h4:K<4
  . refine Classical.byContradiction fun e=>?_
    have:=(hal K h4).2 e
    rw[hn K h4] at this;cases this
  . exact P.n4 K (by omega)
 have hf:=O.fin ⟨0,by decide,hts 0⟩
 have h0:tot (fun K=>Me (ts K)) 4=0:=by rw[OA,hts,hts,hts,hts];rfl
 have hc:=O.cnt
 obtain⟨tk,Op,Fl,nM⟩:=O.room
 refine⟨?_,fun i=>@decide (u.S σ (i:Int)) (Classical.propDecidable _),fun K=>⟨s,σ,q,pn,h,jb,F,u,ts,⟨P.mm,P.vl,P.lc,hts K,⟨tk,Op,Fl,nM,Or.inr (Nat.le_refl _)⟩,by omega,P.pz K (hts K),fun hm=>absurd hm (by decide),O.ord⟩,P.hH,hσ,fun i _=>?_⟩,?_⟩
 . rcases O.vV with⟨-,e⟩ | ⟨e,-⟩
   . omega
   . exact absurd hf e
 . exact(@decide_eq_true_iff _ (Classical.propDecidable _)).symm
 . by_cases c:kd=2
   . rw[decide_eq_true c];exact @decide_eq_true _ (Classical.propDecidable _) (hf.2 c)
   . rw[decide_eq_false c];exact @decide_eq_false _ (Classical.propDecidable _) (fun x=>c (hf.1 x))
theorem Qx.pos (A:Qx w0 w L E Wb Db who kd k M lb dn al Zi V) {K:Nat} (hK:K<4) (h:al K=true):1<=V:=by
 obtain⟨s,σ,q,pn,h',jb,F,u,ts,rn,ph,σ0,P,O,hσ,hal⟩:=A
 cases e:ts K with
 | none=>exact absurd e ((hal K hK).1 h)
 | some y =>
  obtain⟨C,rs⟩:=y
  obtain⟨S,c⟩:=P.cal K C rs e
  exact O.pos hK e c.p4
theorem Qx.up {M':Nat} (A:Qx w0 w L E Wb Db who kd k M lb dn al Zi V) (h:M<=M'):Qx w0 w L E Wb Db who kd k M' lb dn al Zi V:=by
 obtain⟨s,σ,q,pn,h',jb,F,u,ts,rn,ph,σ0,P,O,hσ,hal⟩:=A
 exact⟨s,σ,q,pn,h',jb,F,u,ts,rn,ph,σ0,P,O,by omega,hal⟩
theorem Qx.as {vS al':Nat->Bool} (A:Qx w0 w L E Wb Db who kd k M lb dn al Zi V) (h1:vS=dn) (h2:al'=al):Qx w0 w L E Wb Db who kd k M lb vS al' Zi V:=by rw[h1,h2];exact A
structure Nw (w0 w:World) (L:Loc) (E Wb Db:Nat) (kd:Int) (k:Nat) (z:Nat->Bool) (lb:Nat->Nat) (i:Nat):Prop where
 q:TL 0 97 L 6 20000 z w
 v:XB w E 4 30 12 40 100 600 3 L.p 0
 bw:Below w0.heap.size w0 w
 ar:w.rowIs Wb 65 4 (fun a=>if a<i then .pointer (some ⟨lb a,0,none⟩) else .pointer none)
 dr:w.rowIs Db 66 4 (fun _=>.bool false)
 lr:∀ a,a<i->ZH w (lb a) (.pointer none) (zF kd k 65536)
 gt:∀ a,a<i->Db<lb a/\lb a<w.heap.size
 inj:∀ a b,a<i->b<i->lb a=lb b->a=b
theorem Nw.first (A:TL 0 97 L 6 20000 z w) (v:XB w E 4 30 12 40 100 600 3 L.p 0) (bw:Below w0.heap.size w0 w):Nw w0 ((w.alloc (.cells #[.pointer none,.pointer none,.pointer none,.pointer none] 65)).alloc (.cells #[.bool false,.bool false,.bool false,.bool false] 66)) L E w.heap.size (w.heap.size+1) kd k z lb 0:=by
 obtain⟨wa,ha⟩:∃ wa,w.alloc (.cells #[.pointer none,.pointer none,.pointer none,.pointer none] 65)=wa:=⟨_,rfl⟩
 have sa:wa.heap.size=w.heap.size+1:=by rw[<- ha];exact Go.Deep.nblk_alloc _ _
 have ga:Below w.heap.size w wa:=by rw[<- ha];exact ZY _ _
 have i4:∀ i:Nat,i<4->i=0\/i=1\/i=2\/i=3:=fun i h=>by omega
 have ra:wa.rowIs w.heap.size 65 4 (fun _=>.pointer none):=by
  rw[<- ha]
  exact World.rowIs_alloc w #[.pointer none,.pointer none,.pointer none,.pointer none] 65 (fun _=>.pointer none) (fun i hi=>by
   rcases i4 i hi with rfl | rfl | rfl | rfl <;> rfl)
 rw[ha]
 obtain⟨wb,hb⟩:∃ wb,wa.alloc (.cells #[.bool false,.bool false,.bool false,.bool false] 66)=wb:=⟨_,rfl⟩
 have gb:Below wa.heap.size wa wb:=by rw[<- hb];exact ZY _ _
 have rb:wb.rowIs (w.heap.size+1) 66 4 (fun _=>.bool false):=by
  have:=World.rowIs_alloc wa #[.bool false,.bool false,.bool false,.bool false] 66 (fun _=>.bool false) (fun i hi=>by
   rcases i4 i hi with rfl | rfl | rfl | rfl <;> rfl)
  rw[hb,sa] at this;exact this
 rw[hb]
 have g:=grow ga gb
 exact⟨A.grown g,v.grown g,grow bw g,(ra.of_block (gb.block _ ra.lt)).congr fun j _=>(if_neg (Nat.not_lt_zero j)).symm,rb,fun a h=>absurd h (Nat.not_lt_zero a),fun a h=>absurd h (Nat.not_lt_zero a),fun a b h=>absurd h (Nat.not_lt_zero a)⟩
theorem Nw.at_ {i:Nat} (A:Nw w0 w L E Wb Db kd k z lb i) (hi:i<4):w.cell? ⟨Wb,i,none⟩=some (.pointer none)/\w.frozen? ⟨Wb,i,none⟩=false:=by
 have:=A.ar.cell (i:=i) hi
 rw[if_neg (Nat.lt_irrefl _)] at this
 exact⟨this,A.ar.frozen i⟩
theorem Qx.pg (A:Qx w0 w L E Wb Db who kd k M lb dn al Zi V):Zi<=1:=by
 obtain⟨s,σ,q,pn,h',jb,F,u,ts,rn,ph,σ0,P,O,hσ,hal⟩:=A
 have:=O.vV
 omega
theorem Nw.new {w':World} {i b:Nat} (A:Nw w0 w L E Wb Db kd k z lb i) (hl:∀ x,L.has x->w0.heap.size<=x/\x<E) (h1:w0.heap.size<=E) (h2:E<Wb) (h3:Wb<Db) (g:Below w.heap.size w w') (hb:w.heap.size<=b) (lr:ZH w' b (.pointer none) (zF kd k 65536)):Nw w0 (w'.setCell ⟨Wb,i,none⟩ (pP b 0)) L E Wb Db kd k z (upd lb i b) (i+1):=by
 have o:Only (fun x=>x=Wb) w' (w'.setCell ⟨Wb,i,none⟩ (pP b 0)):=(Only.refl (fun x=>x=Wb) w').setCell (a:=⟨Wb,i,none⟩) (fun _=>rfl) _
 have hD:=A.dr.lt
 have vY:=A.dr.of_block (g.block _ A.dr.lt)
 have iT:=A.ar.of_block (g.block _ A.ar.lt)
 refine⟨(A.q.grown g).only o (fun x hx e=>by have:=(hl x hx).2;omega),(A.v.grown g).only o (by omega),Vd (grow A.bw g) o (fun x e=>by omega),(iT.set i (pP b 0)).congr fun j _=>?_,vY.of_block (o.block _ vY.lt (by omega)),fun a ha=>?_,fun a ha=>?_,fun a c ha hc e=>?_⟩
 . by_cases e:j=i
   . rw[if_pos e,e,upd_same,if_pos (Nat.lt_succ_self _)]
   . rw[if_neg e,Z9 _ _ _ _ e]
     by_cases c:j<i
     . rw[if_pos c,if_pos (by omega)]
     . rw[if_neg c,if_neg (by omega)]
 . by_cases e:a=i
   . rw[e,upd_same];exact lr.only o (by omega)
   . rw[Z9 _ _ _ _ e]
     have:=A.gt a (by omega)
     exact((A.lr a (by omega)).grown g).only o (by omega)
 . by_cases e:a=i
   . rw[e,upd_same];exact⟨by omega,Nat.lt_of_lt_of_le lr.lt o.size⟩
   . rw[Z9 _ _ _ _ e]
     have:=A.gt a (by omega)
     exact⟨this.1,Nat.lt_of_lt_of_le this.2 (Nat.le_trans g.size o.size)⟩
 . by_cases e1:a=i
   . by_cases e2:c=i
     . rw[e1,e2]
     . rw[e1,upd_same,Z9 _ _ _ _ e2] at e
       have:=A.gt c (by omega);omega
   . by_cases e2:c=i
     . rw[e2,upd_same,Z9 _ _ _ _ e1] at e
       have:=A.gt a (by omega);omega
     . rw[Z9 _ _ _ _ e1,Z9 _ _ _ _ e2] at e
       exact A.inj a c (by omega) (by omega) e
theorem Nw.four (A:Nw w0 w L E Wb Db kd k z lb 4) (hkd:kd=2\/kd=3) (k8:k<8) (hz:z k=decide (kd=3)) (hl:∀ x,L.has x->w0.heap.size<=x/\x<E) (h1:w0.heap.size<=E) (h2:E<Wb) (h3:Wb<Db):Qx w0 w L E Wb Db (0:Nat) kd k 20000 lb (fun _=>false) (fun _=>true) 0 4756 :=
 A.q.four (by decide) hkd k8 hz A.v A.bw (A.ar.congr fun j hj=>if_pos hj) A.dr A.lr hl h1 h2 h3 (fun a ha=>(A.gt a ha).1) A.inj
def Ea (a i:Nat):Nat:=if (i+20 - 5 * a) % 20<=5 then 3 * ((i+20 - 5 * a) % 20) else 20 - (i+20 - 5 * a) % 20
def Tm (i V:Nat) (al:Nat->Bool):Prop:=V<=4756/\(1500<=i->∀ a,a<4->al a=true->i+4 * V+Ea a i<=30000)
theorem zi (a i:Nat):Ea a i<=15:=by unfold Ea;split <;> omega
theorem sF (a i:Nat) (ha:a<4):Ea a (i+1)<=Ea a i+3:=by unfold Ea;split <;> split <;> omega
theorem sD (a i:Nat) (ha:a<4) (h:a≠i / 5 % 4):Ea a (i+1)+1<=Ea a i:=by unfold Ea;split <;> split <;> omega
theorem Tm.first:Tm 0 4756 al:=⟨Nat.le_refl _,fun h=>by omega⟩
theorem Tm.no {i K:Nat} (T:Tm i V al) (hK:al K=false) (h:1500<=i->K=i / 5 % 4):Tm (i+1) V al:=⟨T.1,fun hi a ha e=>by
 have h15:=zi a (i+1)
 have hV:=T.1
 by_cases c:1500<=i
 . have h0:=T.2 c a ha e
   have h1:=sD a i ha (fun h2=>by rw[h2,<- h c,hK] at e;cases e)
   omega
 . omega⟩
theorem Tm.step {i:Nat} {al':Nat->Bool} (T:Tm i V al) (hV1:1<=V) (h:∀ a,al' a=true->al a=true):Tm (i+1) (V - 1) al':=⟨Nat.le_trans (Nat.sub_le _ _) T.1,fun hi a ha e=>by
 have h15:=zi a (i+1)
 have hV:=T.1
 by_cases c:1500<=i
 . have h0:=T.2 c a ha (h a e)
   have h1:=sF a i ha
   omega
 . omega⟩
def ED (al:Nat->Bool):Nat:=tot (fun a=>if al a then 1 else 0) 4
theorem EC {K:Nat} (hK:K<4) (h:al K=true):ED (upd al K false)+1=ED al:=by
 have:=WL (f:=fun a=>if al a then 1 else 0) (g:=fun a=>if upd al K false a then 1 else 0) hK (fun i hi=>by simp only[Z9 _ _ _ _ hi])
 simp only[upd_same,h] at this
 unfold ED
 simpa using this
theorem Qx.all {i lf:Nat} (A:Qx w0 w L E Wb Db who kd k M lb dn al Zi V) (T:Tm i V al) (hl:ED al=lf) (he:¬ (i<30000/\0<lf)):lf=0/\∀ a,a<4->al a=false:=by
 have h:∀ a,a<4->al a=false:=fun a ha=>by
  cases e:al a with
  | false=>rfl
  | true =>
   have h1:=A.pos ha e
   have h2:=Qm (f:=fun a=>if al a then 1 else 0) ha
   simp only[e,if_true] at h2
   have h3:1<=lf:=by rw[<- hl];exact h2
   have h4:=T.2 (by omega) a ha e
   omega
 refine⟨?_,h⟩
 rw[<- hl]
 unfold ED
 rw[OA,h 0 (by decide),h 1 (by decide),h 2 (by decide),h 3 (by decide)];rfl
end
end
end Go.Proofs.YtpbghmeikcphnaaGreat
