import Derived.Test.YtgehjolndmgffaaGreatBox
namespace Go.Proofs.YtgehjolndmgffaaGreat
open Go.RowKit
def Y0:List Nat->Nat->Option Nat
 | [],_=>none
 | c :: cs,i=>if c=i then some 0 else (Y0 cs i).map (·+1)
theorem U7:∀ {ws:List Nat} {i p:Nat},Y0 ws i=some p->ws[p]?=some i
 | [],_,_,h=>by cases h
 | c :: cs,i,p,h=>by
  unfold Y0 at h
  split at h
  . cases h;simp;assumption
  . cases hq:Y0 cs i with
    | none=>rw[hq] at h;cases h
    | some q =>
     rw[hq] at h
     cases h
     simpa using U7 hq
theorem Rh:∀ {ws:List Nat} {i:Nat},Y0 ws i=none->i∉ws
 | [],_,_=>by simp
 | c :: cs,i,h=>by
  unfold Y0 at h
  split at h
  . cases h
  . have:Y0 cs i=none:=by
     cases hq:Y0 cs i with
     | none=>rfl
     | some q=>rw[hq] at h;cases h
    have:=Rh this
    simp only[List.mem_cons,not_or]
    exact⟨fun e=>by subst e;contradiction,this⟩
theorem UF (f:Nat->Bool):∀ ws:List Nat,(∀ r c d,ws[r]?=some c->ws[r+1]?=some d->f d=true->f c=true)->∃ q,ws.countP f=q/\∀ r c,ws[r]?=some c->f c=decide (r<q)
 | [],_=>⟨0,rfl,fun r c h=>by simp at h⟩
 | c :: cs,h=>by
  obtain⟨q,hq,hf⟩:=UF f cs fun r x y hx hy=>h (r+1) x y (by simpa using hx) (by simpa using hy)
  by_cases hc:f c=true
  . refine⟨q+1,by rw[List.countP_cons_of_pos hc,hq],fun r x hx=>?_⟩
    cases r with
    | zero=>simp at hx;subst hx;simp[hc]
    | succ r=>rw[hf r x (by simpa using hx)];simp
  . have hc':f c=false:=by simpa using hc
    have q0:q=0:=by
     cases cs with
     | nil=>simpa using hq.symm
     | cons d ds =>
      have hd:f d=false:=by
       cases e:f d with
       | false=>rfl
       | true=>exact absurd (h 0 c d rfl rfl e) hc
      have:=hf 0 d rfl
      rw[hd] at this
      simp at this
      exact this
    refine⟨0,by rw[List.countP_cons_of_neg hc,hq,q0],fun r x hx=>?_⟩
    cases r with
    | zero=>simp at hx;subst hx;simp[hc']
    | succ r=>rw[hf r x (by simpa using hx),q0];simp
def VV (ops:Array Oper):Nat->Nat->Nat->Bool
 | 0,_,_=>false
 | f+1,d,c=>match ops[d]? with
  | none=>false
  | some o=>o.after.any fun e=>Region.binds .any e && (e.on == c || VV ops f e.on c)
theorem Rf {ops:Array Oper} {f d c:Nat} (h:VV ops (f+1) d c=true):∃ o,ops[d]?=some o/\∃ e∈o.after,Region.binds .any e=true/\(e.on=c\/VV ops f e.on c=true):=by
 unfold VV at h
 split at h
 . cases h
 . rename_i o ho
   obtain⟨e,he,hb⟩:=Array.any_eq_true'.1 h
   simp only[Bool.and_eq_true,Bool.or_eq_true,beq_iff_eq] at hb
   exact⟨o,ho,e,he,hb.1,hb.2⟩
theorem Wy {ops:Array Oper} {m:Nat} {listed:Array Bool} (inv:HeadInv .any ops m listed):∀ (f d c:Nat),VV ops f d c=true->listed.getD d false=true->listed.getD c false=true
 | 0,_,_,h,_=>by cases h
 | f+1,d,c,h,hl=>by
  obtain⟨o,ho,e,he,hb,h1⟩:=Rf h
  have h2:=inv.closed d o ho hl e he hb
  rcases h1 with h1 | h1
  . rwa [h1] at h2
  . exact Wy inv f e.on c h1 h2
theorem TC {ops:Array Oper} {m:Nat} {listed:Array Bool} (inv:HeadInv .any ops m listed) {d:Nat} (hi:d∈Region.ready .any ops listed):∀ (f c:Nat),VV ops f d c=true->listed.getD c false=true
 | 0,_,h=>by cases h
 | f+1,c,h=>by
  obtain⟨o,ho,e,he,hb,h1⟩:=Rf h
  obtain⟨hun,o',ho',hafter⟩:=mem_ready.1 hi
  have:o=o':=Option.some.inj (ho.symm.trans ho')
  subst this
  have h2:=hafter e he hb
  rcases h1 with h1 | h1
  . rwa [h1] at h2
  . exact Wy inv f e.on c h1 h2
def Yd (ops:Array Oper):List Nat->Bool
 | c :: d :: cs=>VV ops 6 d c && Yd ops (d :: cs)
 | _=>true
theorem Xf {ops:Array Oper}:∀ {ws:List Nat},Yd ops ws=true->∀ r c d,ws[r]?=some c->ws[r+1]?=some d->VV ops 6 d c=true
 | [],_,r,c,d,hc,_=>by simp at hc
 | [x],_,r,c,d,_,hd=>by simp at hd
 | x :: y :: cs,h,r,c,d,hc,hd=>by
  simp only[Yd,Bool.and_eq_true] at h
  cases r with
  | zero=>simp at hc hd;subst hc hd;exact h.1
  | succ r=>exact Xf h.2 r c d (by simpa using hc) (by simpa using hd)
section
variable {P:Program} {ops:Array Oper} {Q:Exit->Act->World->Prop} {R:World->World->Prop}
def VB (P:Program) (E:World->World->Prop) (ops:Array Oper) (o:Oper) (a:Act) (w:World) (φ:World->Value->Prop):Prop :=
 (Region.wanted o (yielded ops a.tmps)=true/\Za P E w φ ((execOp a.eval o).run P w))\/(Region.wanted o (yielded ops a.tmps)=false/\E w w/\φ w undef)
def VU (P:Program) (R G:World->World->Prop) (Φ:Nat->World->Prop) (ops:Array Oper) (o:Oper) (a:Act) (w:World) (φ:World->Value->Prop):Option Nat->Prop
 | some p=>Φ p w->VB P (fun x y=>R x y/\Φ (p+1) y) ops o a w φ
 | none=>VB P G ops o a w φ
def Zo (P:Program) (R G:World->World->Prop) (Φ:Nat->World->Prop) (ws:List Nat) (ops:Array Oper) (W:World) (K:Act->World->Prop):Nat->List Oper->List (Want R)->List (Nat × (World->Prop))->Act->Prop
 | _,[],[],env,a=>∀ w',R W w'->Φ ws.length w'->XQ w' env->K a w'
 | i,o :: os,k :: ks,env,a =>
  (∀ w',R W w'->XX ops i w' env->VU P R G Φ ops o a w' k.pred (Y0 ws i)) /\
  (match k with
   | .val c=>Zo P R G Φ ws ops W K (i+1) os ks env (a.put o.dst c)
   | .that φ _=>∀ v,Zo P R G Φ ws ops W K (i+1) os ks ((i,fun w=>φ w v) :: env) (a.put o.dst v))
 | _,_,_,_,_=>False
variable {G:World->World->Prop} {Φ:Nat->World->Prop} {ws:List Nat}
theorem YX {W:World} {K:Act->World->Prop}:∀ (os:List Oper) (ks:List (Want R)) (j:Nat) (env:List (Nat × (World->Prop))) (a:Act),Zo P R G Φ ws ops W K j os ks env a->ks.length=os.length
 | [],[],_,_,_,_=>rfl
 | [],_ :: _,_,_,_,h=>by simp[Zo] at h
 | _ :: _,[],_,_,_,h=>by simp[Zo] at h
 | o :: os,k :: ks,j,env,a,h=>by
  have h2:=h.2
  cases k with
  | val c=>simpa using YX os ks (j+1) _ _ h2
  | that φ st=>simpa using YX os ks (j+1) _ _ (h2 undef)
theorem TB {W:World} {K:Act->World->Prop} {i:Nat}:∀ (os:List Oper) (ks:List (Want R)) (vs:List Value) (j:Nat) (env:List (Nat × (World->Prop))) (a:Act) (o:Oper) (k:Want R),
 Zo P R G Φ ws ops W K j os ks env a->os[i]?=some o->ks[i]?=some k->vs.length=os.length->(∀ (r:Nat) (c:Value),ks[r]?=some (Want.val c)->vs[r]?=some c) ->
 ∀ w',R W w'->XX ops (j+i) w' env->(∀ (r:Nat) (k':Want R) (v:Value),r<i->ks[r]?=some k'->vs[r]?=some v->Region.waitsFor .any ops (j+i) (j+r)=true->k'.pred w' v) ->
 VU P R G Φ ops o (Zv (fun q=>decide (q<j+i)) os vs j a) w' k.pred (Y0 ws (j+i)):=by
 induction i with
 | zero =>
  intro os ks vs j env a o k h ho hk hl hv w' hR hf hp
  match os,ks,ho,hk,h with
  | o' :: os,k' :: ks,ho,hk,h =>
   simp only[List.getElem?_cons_zero,Option.some.injEq] at ho hk
   subst ho hk
   rw[XA _ _ _ _ (fun q hq=>by simp;omega)]
   exact h.1 w' hR hf
 | succ i ih =>
  intro os ks vs j env a o k h ho hk hl hv w' hR hf hp
  match os,ks,vs,ho,hk,h,hl,hv,hp with
  | o' :: os,k' :: ks,v' :: vs,ho,hk,h,hl,hv,hp =>
   simp only[List.getElem?_cons_succ] at ho hk
   have hv':∀ (r:Nat) (c:Value),ks[r]?=some (Want.val c)->vs[r]?=some c:=fun r c hc=>by simpa using hv (r+1) c (by simpa using hc)
   have hp':∀ (r:Nat) (k':Want R) (v:Value),r<i->ks[r]?=some k'->vs[r]?=some v->Region.waitsFor .any ops (j+1+i) (j+1+r)=true->k'.pred w' v:=fun r k2 v hr h1 h2 h3 =>
    hp (r+1) k2 v (by omega) (by simpa using h1) (by simpa using h2) (by rwa [show j+(i+1)=j+1+i from by omega,show j+(r+1)=j+1+r from by omega])
   have e1:j+(i+1)=j+1+i:=by omega
   simp only[Zv,show decide (j<j+(i+1))=true from by simp,if_true]
   rw[e1] at hf ⊢
   have h2:=h.2
   cases k' with
   | val c =>
    have:v'=c:=by simpa using hv 0 c rfl
    subst this
    exact ih os ks vs (j+1) env _ o k h2 ho hk (by simpa using hl) hv' w' hR hf hp'
   | that φ st =>
    refine ih os ks vs (j+1) _ _ o k (h2 v') ho hk (by simpa using hl) hv' w' hR ⟨fun hwt=>?_,hf⟩ hp'
    exact hp 0 (.that φ st) v' (by omega) rfl rfl (by rwa [e1])
theorem XE {W:World} {K:Act->World->Prop}:∀ (os:List Oper) (ks:List (Want R)) (vs:List Value) (j:Nat) (env:List (Nat × (World->Prop))) (a:Act),
 Zo P R G Φ ws ops W K j os ks env a->vs.length=os.length->∀ w',R W w'->Φ ws.length w'->XQ w' env->(∀ (r:Nat) (k:Want R) (v:Value),ks[r]?=some k->vs[r]?=some v->k.pred w' v)->K (Zv (fun _=>true) os vs j a) w'
 | [],[],_,_,_,_,h,_,w',hR,hΦ,hf,_=>by simpa [Zv] using h w' hR hΦ hf
 | [],_ :: _,_,_,_,_,h,_,_,_,_,_,_=>by simp[Zo] at h
 | _ :: _,[],_,_,_,_,h,_,_,_,_,_,_=>by simp[Zo] at h
 | _ :: _,_ :: _,[],_,_,_,_,hl,_,_,_,_,_=>by simp at hl
 | o :: os,k :: ks,v :: vs,j,env,a,h,hl,w',hR,hΦ,hf,hp=>by
  have hp':∀ (r:Nat) (k:Want R) (v:Value),ks[r]?=some k->vs[r]?=some v->k.pred w' v:=fun r k2 v2 h1 h2=>hp (r+1) k2 v2 (by simpa using h1) (by simpa using h2)
  have h0:=hp 0 k v rfl rfl
  have h2:=h.2
  simp only[Zv,if_true]
  cases k with
  | val c =>
   have:v=c:=h0
   subst this
   exact XE os ks vs (j+1) env _ h2 (by simpa using hl) w' hR hΦ hf hp'
  | that φ st=>exact XE os ks vs (j+1) _ _ (h2 v) (by simpa using hl) w' hR hΦ ⟨h0,hf⟩ hp'
def doneN (ws:List Nat) (listed:Array Bool):Nat:=ws.countP (fun c=>listed.getD c false)
theorem VT {m:Nat} {listed:Array Bool} (inv:HeadInv .any ops m listed) (hfo:Yd ops ws=true):∀ r c,ws[r]?=some c->listed.getD c false=decide (r<doneN ws listed):=by
 obtain⟨q,hq,hf⟩:=UF (fun c=>listed.getD c false) ws fun r c d hc hd hl=>Wy inv 6 d c (Xf hfo r c d hc hd) hl
 intro r c hc
 have:=hf r c hc
 unfold doneN
 rw[hq]
 exact this
theorem O8 {m i p:Nat} {listed:Array Bool} (inv:HeadInv .any ops m listed) (hfo:Yd ops ws=true) (hi:i∈Region.ready .any ops listed) (hp:Y0 ws i=some p):doneN ws listed=p:=by
 have hpre:=VT inv hfo
 obtain⟨hun,_,_,_⟩:=mem_ready.1 hi
 have hwi:=U7 hp
 have h1:=hpre p i hwi
 rw[getD_both hun] at h1
 have h2:¬ p<doneN ws listed:=fun h=>by rw[decide_eq_true h] at h1;cases h1
 have h3:p<=doneN ws listed:=by
  cases p with
  | zero=>omega
  | succ p =>
   have hlt:p<ws.length:=by have:=(List.getElem?_eq_some_iff.1 hwi).1;omega
   have hc:=List.getElem?_eq_getElem hlt
   have h4:=TC inv hi 6 _ (Xf hfo p _ i hc hwi)
   have h5:=hpre p _ hc
   rw[h4] at h5
   have:=of_decide_eq_true h5.symm
   omega
 omega
theorem Nz {m i p:Nat} {listed:Array Bool} (inv:HeadInv .any ops m listed) (hfo:Yd ops ws=true) (hi:i∈Region.ready .any ops listed) (him:i<m) (hsz:i<listed.size) (hp:Y0 ws i=some p):doneN ws (listed.setIfInBounds i true)=p+1:=by
 have hd:=O8 inv hfo hi hp
 have hpre:=VT inv hfo
 have hpre':=VT (inv.set hi him) hfo
 have hwi:=U7 hp
 have h1:=hpre' p i hwi
 rw[show (listed.setIfInBounds i true).getD i false=true from by simp[hsz]] at h1
 have h2:=of_decide_eq_true h1.symm
 rcases Nat.lt_or_ge (p+1) ws.length with hlt | hge
 . have hc:=List.getElem?_eq_getElem hlt
   have hne:i≠ws[p+1]:=fun e=>by
    obtain⟨hun,_,_,_⟩:=mem_ready.1 hi
    have h4:=Xf hfo p i _ hwi hc
    rw[<- e] at h4
    have h5:=TC inv hi 6 _ h4
    rw[getD_both hun] at h5
    cases h5
   have h3:=hpre' (p+1) _ hc
   rw[getD_set_ne false hne,hpre (p+1) _ hc,hd] at h3
   have h4:¬ p+1<doneN ws (listed.setIfInBounds i true):=fun h=>by
    rw[decide_eq_true h,decide_eq_false (by omega)] at h3;cases h3
   omega
 . have:doneN ws (listed.setIfInBounds i true)<=ws.length:=List.countP_le_length
   omega
theorem Qm {i:Nat} {listed:Array Bool} (hp:Y0 ws i=none):doneN ws (listed.setIfInBounds i true)=doneN ws listed:=by
 have hn:=Rh hp
 unfold doneN
 refine List.countP_congr fun c hc=>?_
 rw[getD_set_ne false (fun e=>hn (by rw[e];exact hc))]
theorem Ny {m:Nat} {W:World} {ks:List (Want R)} {a:Act} {K:Act->World->Prop} (htr:∀ x y z,R x y->R y z->R x z) (BO:∀ x y,G x y->R x y) (O5:∀ x y p,G x y->Φ p x->Φ p y)
 (hsz:ops.size=m) (hsel:Region.noSelect ops=true) (hB:Wv ops m=true) (hback:We ops m=true) (hfo:Yd ops ws=true) (hwm:ws.all (·<m)=true)
 (hall:Zo P R G Φ ws ops W K 0 (ops.toList.take m) ks [] a)
 (hK:∀ (a':Act) (w':World) (listed:Array Bool),K a' w'->listed.size=ops.size->(∀ i,i<ops.size->listed.getD i false=decide (i<m))->wpAny P .any ops Q 0 listed a' w') :
 ∀ (f:Nat) (listed:Array Bool) (vs:List Value) (w:World),left m listed=f->HeadInv .any ops m listed->vs.length=m->(∀ (r:Nat) (c:Value),ks[r]?=some (Want.val c)->vs[r]?=some c) ->
  (∀ (r:Nat) (k:Want R) (v:Value),ks[r]?=some k->vs[r]?=some v->listed.getD r false=true->k.pred w v)->R W w->Φ (doneN ws listed) w ->
  wpAny P .any ops Q f listed (Zv (fun k=>listed.getD k false) (ops.toList.take m) vs 0 a) w:=by
 have hlen:(ops.toList.take m).length=m:=by simp;omega
 have hks:ks.length=m:=by rw[YX _ _ _ _ _ hall,hlen]
 have hpre:∀ r,r<m->(ops.toList.take m)[r]?=ops[r]?:=fun r hr=>by
  rw[List.getElem?_take_of_lt hr];simp
 intro f
 induction f with
 | zero =>
  intro listed vs w hl inv hvl Oq hp hw hΦ
  have h1:=VF hl
  rw[WH (L':=fun _=>true) _ _ _ _ (fun i _ hi=>h1 i (by omega))]
  have hdone:doneN ws listed=ws.length:=by
   unfold doneN
   rw[List.countP_eq_length]
   intro c hc
   exact h1 c (by simpa using List.all_eq_true.1 hwm c hc)
  rw[hdone] at hΦ
  refine hK _ _ listed (XE _ ks vs 0 [] a hall (by omega) w hw hΦ trivial fun r k v hk hv=>hp r k v hk hv (h1 r ?_)) inv.size fun i hi=>?_
  . have:=(List.getElem?_eq_some_iff.1 hk).1;omega
  . rw[h1 i (by omega)];simp;omega
 | succ f ih =>
  intro listed vs w hl inv hvl Oq hp hw hΦ
  obtain⟨i0,hi0,hu0,hb0⟩:=Uc m (by omega:left m listed≠0)
  have KN:listed.getD i0 true=false:=getD_in (by rw[inv.size];omega) hu0
  refine⟨fun h0=>?_,fun i hi=>?_⟩
  . exfalso
    have h1:=List.all_eq_true.1 hback i0 (List.mem_range.2 hi0)
    have hlt:i0<ops.size:=by omega
    rw[Array.getElem?_eq_getElem hlt] at h1
    have h2:i0∈Region.ready .any ops listed:=by
     rw[mem_ready]
     refine⟨KN,ops[i0],Array.getElem?_eq_getElem hlt,fun e he hb=>?_⟩
     have:=Array.all_eq_true_iff_forall_mem.1 h1 e he
     simp[hb] at this
     exact hb0 _ this
    rw[h0] at h2
    cases h2
  . obtain⟨hun,o,ho,hafter⟩:=mem_ready.1 hi
    have hin:i<m:=by have:=(Array.getElem?_eq_some_iff.1 ho).1;omega
    have hun':=getD_both hun
    have hisz:i<listed.size:=by rw[inv.size];omega
    have EP:=inv.set hi hin
    have hl':left m (listed.setIfInBounds i true)=f:=by have:=RF hisz hun' m hin;omega
    have hset:(listed.setIfInBounds i true).getD i false=true:=by simp[hisz]
    have so:=X0 hB hin ho
    obtain⟨k,hk⟩:∃ k,ks[i]?=some k:=⟨ks[i],List.getElem?_eq_getElem (by omega)⟩
    have VS:∀ r,Region.waitsFor .any ops i r=true->listed.getD r false=true:=fun r hr=>by
     obtain⟨oj,hoj,e,he,hb,hon⟩:=Region.waitsFor_spec hr
     have:oj=o:=Option.some.inj (hoj.symm.trans ho)
     subst this
     have h3:=hafter e he hb
     rwa [hon] at h3
    have Q9:=TB (i:=i) _ ks vs 0 [] a o k hall ((hpre i hin).trans ho) hk (by omega) Oq w hw trivial
     (fun r k' v _ h1 h2 h3=>hp r k' v h1 h2 (VS r (by simpa using h3)))
    rw[Nat.zero_add] at Q9
    -- what the operation does,whichever it is
    have hst:VB P (fun x y=>R x y/\Φ (doneN ws (listed.setIfInBounds i true)) y) ops o (Zv (fun q=>decide (q<i)) (ops.toList.take m) vs 0 a) w k.pred:=by
     have weak:∀ {E:World->World->Prop} {E':World->World->Prop} (φ:World->Value->Prop) (x:World) (r:Result Next),(∀ y,E x y->E' x y)->Za P E x φ r->Za P E' x φ r:=by
      intro E E' φ x r hE h
      cases r with
      | ok n w' =>
       cases n <;> simp only[Za] at h ⊢
       case value u=>exact⟨hE _ h.1,h.2⟩
       case skip=>exact⟨hE _ h.1,h.2⟩
       case enter fn args=>exact h.mono fun e w'' ⟨u,he,h1,h2⟩=>⟨u,he,hE _ h1,h2⟩
      | halt x w'=>simp only[Za] at h
     cases EO:Y0 ws i with
     | some p =>
      rw[EO] at Q9
      have hd:=O8 inv hfo hi EO
      rw[hd] at hΦ
      rw[Nz inv hfo hi hin hisz EO]
      rcases Q9 hΦ with⟨h1,h2⟩ | ⟨h1,h2,h3⟩
      . exact .inl ⟨h1,weak _ _ _ (fun y hy=>hy) h2⟩
      . exact .inr ⟨h1,h2,h3⟩
     | none =>
      rw[EO] at Q9
      rw[Qm EO]
      rcases Q9 with⟨h1,h2⟩ | ⟨h1,h2,h3⟩
      . exact .inl ⟨h1,weak _ _ _ (fun y hy=>⟨BO _ _ hy,O5 _ _ _ hy hΦ⟩) h2⟩
      . exact .inr ⟨h1,⟨BO _ _ h2,O5 _ _ _ h2 hΦ⟩,h3⟩
    have hsame:∀ t,t∈o.looksAt ops->(Zv (fun k=>listed.getD k false) (ops.toList.take m) vs 0 a).eval (.tmp t)=(Zv (fun q=>decide (q<i)) (ops.toList.take m) vs 0 a).eval (.tmp t):=fun t hlook=>by
     refine VG _ _ _ _ _ rfl rfl fun r o' ho' hd=>?_
     have hrm:r<m:=by have:=(List.getElem?_eq_some_iff.1 ho').1;omega
     obtain⟨h1,h2⟩:=so.data r o' t hrm ((hpre r hrm).symm.trans ho') hd hlook
     simp only[Nat.zero_add]
     rw[VS r h2];simp[h1]
    have heq:execOp (Zv (fun k=>listed.getD k false) (ops.toList.take m) vs 0 a).eval o=execOp (Zv (fun q=>decide (q<i)) (ops.toList.take m) vs 0 a).eval o:=by
     refine execOp_congr o (fun cs b=>Region.noSelect_spec hsel i o cs b ho) fun x hx=>?_
     cases x with
     | tmp t=>exact hsame t (List.mem_append_left _ (List.mem_filterMap.2 ⟨.tmp t,by simpa using hx,rfl⟩))
     | _=>rfl
    have hwant:=VR (ops:=ops) (o:=o) (a:=Zv (fun k=>listed.getD k false) (ops.toList.take m) vs 0 a) (a':=Zv (fun q=>decide (q<i)) (ops.toList.take m) vs 0 a) (by rw[XZ,XZ]) hsame
    -- what follows an operation's outcome
    have next:∀ (u:Value) (w':World),(R w w'/\Φ (doneN ws (listed.setIfInBounds i true)) w')->k.pred w' u->wpAny P .any ops Q f (listed.setIfInBounds i true) ((Zv (fun k=>listed.getD k false) (ops.toList.take m) vs 0 a).put o.dst u) w':=by
     intro u w' EN AL
     have hR:=EN.1
     have EM:i<vs.length:=by omega
     have hfr:(Zv (fun k=>listed.getD k false) (ops.toList.take m) vs 0 a).put o.dst u=Zv (fun k=>(listed.setIfInBounds i true).getD k false) (ops.toList.take m) (vs.set i u) 0 a:=by
      rw[VA (L:=fun k=>listed.getD k false) (ops.toList.take m) vs (vs.set i u) 0 a (by simp) (fun r hr=>?_)]
      . rw[RG (L:=fun k=>listed.getD k false) (L':=fun k=>(listed.setIfInBounds i true).getD k false) (i:=i) (ops.toList.take m) (vs.set i u) 0 a o u ((hpre i hin).trans ho) (by simp[EM]) ?_ ?_ ?_ ?_]
        . intro r s x y hx hy hrs d hd
          have hsm:s<m:=by have:=(List.getElem?_eq_some_iff.1 hy).1;omega
          exact(X0 hB hsm ((hpre s hsm).symm.trans hy)).ap r x d hrs ((hpre r (by omega)).symm.trans hx) hd
        . simpa using hun'
        . simpa using hset
        . intro q hq;exact getD_set_ne false (by omega)
      . have:i≠r:=fun e=>by subst e;simp only[Nat.zero_add] at hr;rw[hun'] at hr;cases hr
        rw[List.getElem?_set_ne this]
     rw[hfr]
     refine ih _ (vs.set i u) w' hl' EP (by simpa using hvl) (fun r c hc=>?_) (fun r k' v hk' hv hlr=>?_) (htr _ _ _ hw hR) EN.2
     . by_cases e:i=r
       . subst e
         rw[hk] at hc
         cases hc
         have:u=c:=AL
         subst this
         simp[EM]
       . rw[List.getElem?_set_ne e];exact Oq r c hc
     . by_cases e:i=r
       . subst e
         rw[hk] at hk'
         cases hk'
         simp only[List.getElem?_set_self EM,Option.some.injEq] at hv
         subst hv
         exact AL
       . rw[List.getElem?_set_ne e] at hv
         rw[getD_set_ne false e] at hlr
         exact k'.keeps hR (hp r k' v hk' hv hlr)
    unfold wpOp
    simp only[ho]
    rcases hst with⟨hwt,hup⟩ | ⟨hwt,hE,hup⟩
    . rw[if_pos (hwant.trans hwt)]
      refine .inl ?_
      unfold Oper.wp
      rw[heq]
      generalize (execOp (Zv (fun q=>decide (q<i)) (ops.toList.take m) vs 0 a).eval o).run P w=r at *
      cases r with
      | ok n w' =>
       cases n <;> simp only[Za] at hup <;> simp only[Oper.upon]
       case value u=>exact next u w' hup.1 hup.2
       case skip=>exact next undef w' hup.1 hup.2
       case enter fn args=>exact hup.mono fun e w'' ⟨u,he,h1,h2⟩=>by subst he;exact next u w'' h1 h2
      | halt x w'=>simp only[Za] at hup
    . rw[if_neg (by rw[hwant,hwt];simp)]
      exact next undef w hE hup
theorem Yt {id:Nat} {l:List Oper} {a:Act} {W:World} (R G:World->World->Prop) (Φ:Nat->World->Prop) (ws:List Nat) (ks:List (Want R)) (hm:P.follows .mixedOrders=true) (hrefl:∀ x,R x x) (htr:∀ x y z,R x y->R y z->R x z)
 (BO:∀ x y,G x y->R x y) (O5:∀ x y p,G x y->Φ p x->Φ p y) (hΦ:Φ 0 W.drew)
 (hsel:Region.noSelect l.toArray=true) (hB:Wv l.toArray l.length=true) (hback:We l.toArray l.length=true) (hfo:Yd l.toArray ws=true) (hwm:ws.all (·<l.length)=true)
 (hall:Zo P R G Φ ws l.toArray W.drew (fun a' w'=>Q .normal a' w') 0 l ks [] a):(Code.region id l.toArray true).wp P Q a W:=by
 refine wp_region_any hm ?_
 have hz:∀ i,(Array.replicate l.toArray.size false).getD i false=false:=fun i=>getD_replicate_false _ _
 have hlen:ks.length=l.length:=YX _ _ _ _ _ hall
 have h:=Ny (P:=P) (ops:=l.toArray) (Q:=Q) (m:=l.length) (W:=W.drew) (ks:=ks) (a:=a) (K:=fun a' w'=>Q .normal a' w') htr BO O5 (by simp) hsel hB hback hfo hwm (by simpa using hall) ?_ l.length (Array.replicate l.toArray.size false) (ks.map Want.Nw) W.drew ?_ ?_ (by simpa using hlen) (TR ks)
  (fun r k v _ _ h=>by rw[hz r] at h;cases h) (hrefl _) ?_
 . rw[XA _ _ _ _ (fun i _=>hz i)] at h
   simpa using h
 . intro a' w' listed hk hs hL
   refine⟨?_,hk⟩
   refine List.eq_nil_iff_forall_not_mem.2 fun i hi=>?_
   obtain⟨hun,o,ho,_⟩:=mem_ready.1 hi
   have hlt:=(Array.getElem?_eq_some_iff.1 ho).1
   have:=hL i hlt
   rw[getD_both hun] at this
   simp at this hlt
   omega
 . unfold left
   rw[List.countP_eq_length.2 (fun i _=>by rw[hz i];rfl)]
   simp
 . refine⟨by simp,fun j oj _ h=>?_,fun t ht ht'=>by simp at ht';omega⟩
   rw[hz j] at h;cases h
 . have:doneN ws (Array.replicate l.toArray.size false)=0:=by
    unfold doneN
    rw[List.countP_eq_zero]
    intro c _
    rw[hz c];simp
   rw[this]
   exact hΦ
end
section
variable {P:Program} {ops:Array Oper} {Q:Exit→Act→World→Prop} {R G:World→World→Prop} {Φ:Nat→World→Prop} {ws:List Nat} {W:World} {K:Act→World→Prop} {i:Nat} {o:Oper} {os:List Oper} {ks:List (Want R)} {env:List (Nat × (World→Prop))} {a:Act} {c:Value}
theorem pV (h1:∀ w', R W w'→XX ops i w' env→VU P R G Φ ops o a w' (Want.val (R := R) c).pred (Y0 ws i)) (h2:Zo P R G Φ ws ops W K (i+1) os ks env (a.put o.dst c)):Zo P R G Φ ws ops W K i (o :: os) (.val c :: ks) env a := ⟨h1, h2⟩
theorem uV (h1:∀ w', R W w'→XX ops i w' env→VU P R G Φ ops o a w' (Want.val (R := R) c).pred (Y0 ws i)) (h2:∀ w', R W w'→Φ ws.length w'→XQ w' env→K (a.put o.dst c) w'):Zo P R G Φ ws ops W K i [o] [.val c] env a := ⟨h1, h2⟩
theorem OE (h1:∀ w', R W w'→XX ops i w' env→VU P R G Φ ops o a w' (fun _ _ => True) (Y0 ws i)) (h2:∀ v w', R W w'→Φ ws.length w'→XQ w' ((i, fun _ => True) :: env)→K (a.put o.dst v) w'):Zo P R G Φ ws ops W K i [o] [.that (fun _ _ => True) (fun _ _ _ _ _ => trivial)] env a := ⟨h1, h2⟩
theorem QO {id:Nat} {l:List Oper} (Φ:Nat→World→Prop) (ws:List Nat) (X:(∀ x, R x x)∧(∀ x y z, R x y→R y z→R x z)∧∀ x y, Grown x y→R x y) (hg:∀ x y p, Grown x y→Φ p x→Φ p y) (h0:Φ 0 W.drew) (hc:(P.follows .mixedOrders && Region.noSelect l.toArray && Wv l.toArray l.length && We l.toArray l.length && Yd l.toArray ws && ws.all (·<l.length))=true) (hall:Zo P R Grown Φ ws l.toArray W.drew (fun a' w' => Q .normal a' w') 0 l ks [] a):(Code.region id l.toArray true).wp P Q a W := by
  simp only[Bool.and_eq_true] at hc
  obtain⟨⟨⟨⟨⟨h1, h2⟩, h3⟩, h4⟩, h5⟩, h6⟩ := hc
  exact Yt R Grown Φ ws ks h1 X.1 X.2.1 X.2.2 hg h0 h2 h3 h4 h5 h6 hall
end
end Go.Proofs.YtgehjolndmgffaaGreat
