import Derived.Test.YtgehjolndmgffaaGreatLay
import Derived.StillTail
import Derived.Test.YtgehjolndmgffaaGreatLayEnv
import Derived.Test.YtgehjolndmgffaaGreatWord
namespace Go.Proofs.YtgehjolndmgffaaGreat
open Go.RowKit
section
section
variable {P:Program} {ops:Array Oper} {Q:Exit->Act->World->Prop}
def Zv (L:Nat->Bool):List Oper->List Value->Nat->Act->Act
 | o :: os,v :: vs,j,a=>Zv L os vs (j+1) (if L j then a.put o.dst v else a)
 | _,_,_,a=>a
theorem NR (a:Act) (d:Option Tmp) (v:Value):(a.put d v).tmps.size=a.tmps.size:=by
 cases d <;> simp[Act.put]
theorem QJ (a a':Act) (d:Option Tmp) (v:Value) (t:Tmp) (hs:a.tmps.size=a'.tmps.size) (h:a.eval (.tmp t)=a'.eval (.tmp t)) :
 (a.put d v).eval (.tmp t)=(a'.put d v).eval (.tmp t):=by
 cases d with
 | none=>exact h
 | some d =>
  by_cases e:d=t
  . subst e
    simp[Act.eval,Act.put,Array.getElem?_setIfInBounds,hs]
  . rw[Act.eval_put (fun x hx=>by cases hx;simpa using Ne.symm e),Act.eval_put (fun x hx=>by cases hx;simpa using Ne.symm e)]
    exact h
theorem VG {L L':Nat->Bool} {t:Tmp}:∀ (os:List Oper) (vs:List Value) (j:Nat) (a a':Act),a.tmps.size=a'.tmps.size->a.eval (.tmp t)=a'.eval (.tmp t) ->
 (∀ r o,os[r]?=some o->o.dst=some t->L (j+r)=L' (j+r))->(Zv L os vs j a).eval (.tmp t)=(Zv L' os vs j a').eval (.tmp t)
 | [],_,_,_,_,_,h,_=>by simpa [Zv] using h
 | _ :: _,[],_,_,_,_,h,_=>by simpa [Zv] using h
 | o :: os,v :: vs,j,a,a',hs,h,hL=>by
  simp only[Zv]
  refine VG os vs (j+1) _ _ ?_ ?_ (fun r o' ho' hd=>?_)
  . split <;> split <;> simp[NR,hs]
  . by_cases hd:o.dst=some t
    . have e:=hL 0 o rfl hd
      simp only[Nat.add_zero] at e
      rw[e]
      split
      . exact QJ _ _ _ _ _ hs h
      . exact h
    . have e1:∀ b:Act,(b.put o.dst v).eval (.tmp t)=b.eval (.tmp t):=fun b=>Act.eval_put fun x hx he=>by
       injection he with he;exact hd (by rw[hx,he])
      split <;> split <;> simp[e1,h]
  . have:=hL (r+1) o' (by simpa using ho') hd
    rwa [show j+(r+1)=j+1+r from by omega] at this
theorem XA {L:Nat->Bool}:∀ (os:List Oper) (vs:List Value) (j:Nat) (a:Act),(∀ i,j<=i->L i=false)->Zv L os vs j a=a
 | [],_,_,_,_=>by simp[Zv]
 | _ :: _,[],_,_,_=>by simp[Zv]
 | o :: os,v :: vs,j,a,h=>by
  simp only[Zv,h j (Nat.le_refl _),Bool.false_eq_true,if_false]
  exact XA os vs (j+1) a fun i hi=>h i (by omega)
theorem NQ {L:Nat->Bool} {d:Option Tmp} {u:Value}:∀ (os:List Oper) (vs:List Value) (j:Nat) (a:Act),(∀ o∈os,∀ x,d=some x->o.dst≠some x) ->
 Zv L os vs j (a.put d u)=(Zv L os vs j a).put d u
 | [],_,_,_,_=>by simp[Zv]
 | _ :: _,[],_,_,_=>by simp[Zv]
 | o :: os,v :: vs,j,a,h=>by
  simp only[Zv]
  rw[<- NQ os vs (j+1) _ fun o' ho'=>h o' (List.mem_cons_of_mem _ ho')]
  congr 1
  split
  . exact Act.put_comm a u v (h o (List.mem_cons_self ..))
  . rfl
theorem RG {L L':Nat->Bool} {i:Nat}:∀ (os:List Oper) (vs:List Value) (j:Nat) (a:Act) (o:Oper) (v:Value),os[i]?=some o->vs[i]?=some v ->
 (∀ (r s:Nat) (x y:Oper),os[r]?=some x->os[s]?=some y->r<s->∀ d,x.dst=some d->y.dst≠some d) ->
 L (j+i)=false->L' (j+i)=true->(∀ k,k≠j+i->L' k=L k)->Zv L' os vs j a=(Zv L os vs j a).put o.dst v:=by
 induction i with
 | zero =>
  intro os vs j a o v ho hv hap h0 h1 hk
  match os,vs,ho,hv with
  | o' :: os,v' :: vs,ho,hv =>
   simp only[List.getElem?_cons_zero,Option.some.injEq] at ho hv
   subst ho hv
   simp only[Nat.add_zero] at h0 h1
   simp only[Zv,h0,h1,if_true,Bool.false_eq_true,if_false]
   rw[<- NQ os vs (j+1) a (fun o2 h2 x hx=>?_)]
   . have:∀ (os:List Oper) (vs:List Value) (q:Nat) (b:Act),j<q->Zv L' os vs q b=Zv L os vs q b:=by
      intro os
      induction os with
      | nil=>intro vs q b _;simp[Zv]
      | cons o2 os ih =>
       intro vs q b hq
       cases vs with
       | nil=>simp[Zv]
       | cons v2 vs=>simp only[Zv,hk q (by omega)];exact ih vs (q+1) _ (by omega)
     exact this _ _ _ _ (by omega)
   . obtain⟨s,hs⟩:=List.mem_iff_getElem?.1 h2
     exact hap 0 (s+1) o' o2 rfl (by simpa using hs) (by omega) x hx
 | succ i ih =>
  intro os vs j a o v ho hv hap h0 h1 hk
  match os,vs,ho,hv with
  | o' :: os,v' :: vs,ho,hv =>
   simp only[Zv,hk j (by omega)]
   exact ih os vs (j+1) _ o v (by simpa using ho) (by simpa using hv) (fun r s x y hx hy hrs=>hap (r+1) (s+1) x y (by simpa using hx) (by simpa using hy) (by omega))
    (by rwa [show j+1+i=j+(i+1) from by omega]) (by rwa [show j+1+i=j+(i+1) from by omega]) (fun k hk'=>hk k (by omega))
theorem WH {L L':Nat->Bool}:∀ (os:List Oper) (vs:List Value) (j:Nat) (a:Act),(∀ i,j<=i->i<j+os.length->L i=L' i)->Zv L os vs j a=Zv L' os vs j a
 | [],_,_,_,_=>by simp[Zv]
 | _ :: _,[],_,_,_=>by simp[Zv]
 | o :: os,v :: vs,j,a,h=>by
  simp only[Zv,h j (Nat.le_refl _) (by simp)]
  exact WH os vs (j+1) _ fun i hi hl=>h i (by omega) (by simp only[List.length_cons];omega)
def left (n:Nat) (listed:Array Bool):Nat:=(List.range n).countP fun i=>!listed.getD i false
theorem RF {listed:Array Bool} {i:Nat} (hi:i<listed.size) (h:listed.getD i false=false):∀ n,i<n->left n (listed.setIfInBounds i true)+1=left n listed:=by
 have e1:(listed.setIfInBounds i true).getD i false=true:=by simp[hi]
 have low:∀ n,n<=i->left n (listed.setIfInBounds i true)=left n listed:=by
  intro n hn
  unfold left
  refine List.countP_congr fun x hx=>?_
  have:=List.mem_range.1 hx
  rw[getD_set_ne false (by omega)]
 intro n
 induction n with
 | zero=>intro h;omega
 | succ n ih =>
  intro hin
  have s:∀ l:Array Bool,left (n+1) l=left n l+if !l.getD n false then 1 else 0:=by
   intro l;simp[left,List.range_succ,List.countP_append,List.countP_cons]
  rw[s,s]
  rcases Nat.lt_or_ge i n with h' | h'
  . rw[getD_set_ne false (by omega),<- ih h'];omega
  . have:i=n:=by omega
    subst this
    rw[low i (Nat.le_refl _),e1,h];simp
theorem VF {listed:Array Bool} {n:Nat} (h:left n listed=0):∀ i,i<n->listed.getD i false=true:=by
 intro i hi
 have:=List.countP_eq_zero.1 h i (List.mem_range.2 hi)
 simpa using this
theorem Uc {listed:Array Bool}:∀ n,left n listed≠0->∃ i,i<n/\listed.getD i false=false/\∀ j,j<i->listed.getD j false=true:=by
 intro n
 induction n with
 | zero=>intro h;exact absurd rfl h
 | succ n ih =>
  intro h
  by_cases h0:left n listed=0
  . refine⟨n,by omega,?_,VF h0⟩
    have s:left (n+1) listed=left n listed+if !listed.getD n false then 1 else 0:=by simp[left,List.range_succ,List.countP_append,List.countP_cons]
    rw[s,h0] at h
    cases hb:listed.getD n false with
    | false=>rfl
    | true=>rw[hb] at h;simp at h
  . obtain⟨i,hi,h1,h2⟩:=ih h0
    exact⟨i,by omega,h1,h2⟩
def We (ops:Array Oper) (n:Nat):Bool :=
 (List.range n).all fun j=>match ops[j]? with
  | none=>false
  | some o=>o.after.all fun e=>!Region.binds .any e || decide (e.on<j)
def YL (n g:Nat):Array Bool:=((List.range (n+g)).map fun i=>decide (i<n)).toArray
end
end
section
inductive Want (R:World->World->Prop) where
 | val (c:Value)
 | that (φ:World->Value->Prop) (stays:∀ w w' v,R w w'->φ w v->φ w' v)
section
variable {P:Program} {ops:Array Oper} {Q:Exit->Act->World->Prop} {R:World->World->Prop}
def Want.pred:Want R->World->Value->Prop
 | .val c,_,v=>v=c
 | .that φ _,w,v=>φ w v
theorem Want.keeps (k:Want R) {w w':World} {v:Value} (h:R w w') (hk:k.pred w v):k.pred w' v:=by
 cases k with
 | val c=>exact hk
 | that φ st=>exact st w w' v h hk
def Za (P:Program) (R:World->World->Prop) (w:World) (φ:World->Value->Prop):Result Next->Prop
 | .ok (.value u) w'=>R w w'/\φ w' u
 | .ok .skip w'=>R w w'/\φ w' undef
 | .ok (.enter f args) w'=>Calls P f args w' (fun e w''=>∃ u,e=.returned u/\R w w''/\φ w'' u)
 | _=>False
def Ux (P:Program) (R:World->World->Prop) (ops:Array Oper) (o:Oper) (a:Act) (w:World) (φ:World->Value->Prop):Prop :=
 (Region.wanted o (yielded ops a.tmps)=true/\Za P R w φ ((execOp a.eval o).run P w))\/(Region.wanted o (yielded ops a.tmps)=false/\φ w undef)
def XX (ops:Array Oper) (i:Nat) (w:World):List (Nat × (World->Prop))->Prop
 | []=>True
 | (j,F) :: e=>(Region.waitsFor .any ops i j=true->F w)/\XX ops i w e
def XQ (w:World):List (Nat × (World->Prop))->Prop
 | []=>True
 | (_,F) :: e=>F w/\XQ w e
def ZH (P:Program) (R:World->World->Prop) (ops:Array Oper) (W:World) (K:Act->World->Prop):Nat->List Oper->List (Want R)->List (Nat × (World->Prop))->Act->Prop
 | _,[],[],env,a=>∀ w',R W w'->XQ w' env->K a w'
 | i,o :: os,k :: ks,env,a =>
  (∀ w',R W w'->XX ops i w' env->Ux P R ops o a w' k.pred) /\
  (match k with
   | .val c=>ZH P R ops W K (i+1) os ks env (a.put o.dst c)
   | .that φ _=>∀ v,ZH P R ops W K (i+1) os ks ((i,fun w=>φ w v) :: env) (a.put o.dst v))
 | _,_,_,_,_=>False
theorem Yc {W:World} {K:Act->World->Prop}:∀ (os:List Oper) (ks:List (Want R)) (j:Nat) (env:List (Nat × (World->Prop))) (a:Act),ZH P R ops W K j os ks env a->ks.length=os.length
 | [],[],_,_,_,_=>rfl
 | [],_ :: _,_,_,_,h=>by simp[ZH] at h
 | _ :: _,[],_,_,_,h=>by simp[ZH] at h
 | o :: os,k :: ks,j,env,a,h=>by
  have h2:=h.2
  cases k with
  | val c=>simpa using Yc os ks (j+1) _ _ h2
  | that φ st=>simpa using Yc os ks (j+1) _ _ (h2 undef)
theorem KF {W:World} {K:Act->World->Prop} {i:Nat}:∀ (os:List Oper) (ks:List (Want R)) (vs:List Value) (j:Nat) (env:List (Nat × (World->Prop))) (a:Act) (o:Oper) (k:Want R),
 ZH P R ops W K j os ks env a->os[i]?=some o->ks[i]?=some k->vs.length=os.length->(∀ (r:Nat) (c:Value),ks[r]?=some (Want.val c)->vs[r]?=some c) ->
 ∀ w',R W w'->XX ops (j+i) w' env->(∀ (r:Nat) (k':Want R) (v:Value),r<i->ks[r]?=some k'->vs[r]?=some v->Region.waitsFor .any ops (j+i) (j+r)=true->k'.pred w' v) ->
 Ux P R ops o (Zv (fun q=>decide (q<j+i)) os vs j a) w' k.pred:=by
 induction i with
 | zero =>
  intro os ks vs j env a o k h ho hk hl hv w' hR hf hp
  match os,ks,ho,hk,h with
  | o' :: os,k' :: ks,ho,hk,h =>
   simp only[List.getElem?_cons_zero,Option.some.injEq] at ho hk
   subst ho hk
   rw[XA _ _ _ _ (fun q hq=>by simp;omega)]
   exact h.1 w' hR hf
 | succ i ih =>
  intro os ks vs j env a o k h ho hk hl hv w' hR hf hp
  match os,ks,vs,ho,hk,h,hl,hv,hp with
  | o' :: os,k' :: ks,v' :: vs,ho,hk,h,hl,hv,hp =>
   simp only[List.getElem?_cons_succ] at ho hk
   have hv':∀ (r:Nat) (c:Value),ks[r]?=some (Want.val c)->vs[r]?=some c:=fun r c hc=>by simpa using hv (r+1) c (by simpa using hc)
   have hp':∀ (r:Nat) (k':Want R) (v:Value),r<i->ks[r]?=some k'->vs[r]?=some v->Region.waitsFor .any ops (j+1+i) (j+1+r)=true->k'.pred w' v:=fun r k2 v hr h1 h2 h3 =>
    hp (r+1) k2 v (by omega) (by simpa using h1) (by simpa using h2) (by rwa [show j+(i+1)=j+1+i from by omega,show j+(r+1)=j+1+r from by omega])
   have e1:j+(i+1)=j+1+i:=by omega
   simp only[Zv,show decide (j<j+(i+1))=true from by simp,if_true]
   rw[e1] at hf ⊢
   have h2:=h.2
   cases k' with
   | val c =>
    have:v'=c:=by simpa using hv 0 c rfl
    subst this
    exact ih os ks vs (j+1) env _ o k h2 ho hk (by simpa using hl) hv' w' hR hf hp'
   | that φ st =>
    refine ih os ks vs (j+1) _ _ o k (h2 v') ho hk (by simpa using hl) hv' w' hR ⟨fun hwt=>?_,hf⟩ hp'
    exact hp 0 (.that φ st) v' (by omega) rfl rfl (by rwa [e1])
theorem VQ {W:World} {K:Act->World->Prop}:∀ (os:List Oper) (ks:List (Want R)) (vs:List Value) (j:Nat) (env:List (Nat × (World->Prop))) (a:Act),
 ZH P R ops W K j os ks env a->vs.length=os.length->∀ w',R W w'->XQ w' env->(∀ (r:Nat) (k:Want R) (v:Value),ks[r]?=some k->vs[r]?=some v->k.pred w' v)->K (Zv (fun _=>true) os vs j a) w'
 | [],[],_,_,_,_,h,_,w',hR,hf,_=>by simpa [Zv] using h w' hR hf
 | [],_ :: _,_,_,_,_,h,_,_,_,_,_=>by simp[ZH] at h
 | _ :: _,[],_,_,_,_,h,_,_,_,_,_=>by simp[ZH] at h
 | _ :: _,_ :: _,[],_,_,_,_,hl,_,_,_,_=>by simp at hl
 | o :: os,k :: ks,v :: vs,j,env,a,h,hl,w',hR,hf,hp=>by
  have hp':∀ (r:Nat) (k:Want R) (v:Value),ks[r]?=some k->vs[r]?=some v->k.pred w' v:=fun r k2 v2 h1 h2=>hp (r+1) k2 v2 (by simpa using h1) (by simpa using h2)
  have h0:=hp 0 k v rfl rfl
  have h2:=h.2
  simp only[Zv,if_true]
  cases k with
  | val c =>
   have:v=c:=h0
   subst this
   exact VQ os ks vs (j+1) env _ h2 (by simpa using hl) w' hR hf hp'
  | that φ st=>exact VQ os ks vs (j+1) _ _ (h2 v) (by simpa using hl) w' hR ⟨h0,hf⟩ hp'
def Wv (ops:Array Oper) (m:Nat):Bool :=
 (List.range m).all fun j=>match ops[j]? with
  | none=>false
  | some o=>(List.range m).all fun i=>match (ops[i]?).bind (·.dst) with
   | none=>true
   | some d=>(!(o.looksAt ops).contains d || (decide (i<j) && Region.waitsFor .any ops j i)) && (decide (i≥j) || o.dst != some d)
structure yR (ops:Array Oper) (m j:Nat) (o:Oper):Prop where
 data:∀ i x d,i<m->ops[i]?=some x->x.dst=some d->d∈o.looksAt ops->i<j/\Region.waitsFor .any ops j i=true
 ap:∀ i x d,i<j->ops[i]?=some x->x.dst=some d->o.dst≠some d
theorem X0 {m j:Nat} {o:Oper} (h:Wv ops m=true) (hj:j<m) (ho:ops[j]?=some o):yR ops m j o:=by
 have h1:=List.all_eq_true.1 h j (List.mem_range.2 hj)
 rw[ho] at h1
 have key:∀ i x d,i<m->ops[i]?=some x->x.dst=some d->((!(o.looksAt ops).contains d || (decide (i<j) && Region.waitsFor .any ops j i)) && (decide (i≥j) || o.dst != some d))=true:=by
  intro i x d hi hx hd
  have:=List.all_eq_true.1 h1 i (List.mem_range.2 hi)
  rw[hx] at this
  simpa [hd] using this
 refine⟨fun i x d hi hx hd hl=>?_,fun i x d hi hx hd=>?_⟩
 . have:=key i x d hi hx hd
   simp only[Bool.and_eq_true,Bool.or_eq_true,Bool.not_eq_true',decide_eq_true_eq] at this
   rcases this.1 with h2 | h2
   . simp[hl] at h2
   . exact h2
 . have:=key i x d (by omega) hx hd
   simp only[Bool.and_eq_true,Bool.or_eq_true,decide_eq_true_eq,bne_iff_ne,ne_eq] at this
   rcases this.2 with h2 | h2
   . omega
   . exact h2
theorem VA {L:Nat->Bool}:∀ (os:List Oper) (vs vs':List Value) (j:Nat) (a:Act),vs.length=vs'.length->(∀ r,L (j+r)=true->vs[r]?=vs'[r]?)->Zv L os vs j a=Zv L os vs' j a
 | [],_,_,_,_,_,_=>by simp[Zv]
 | _ :: _,[],[],_,_,_,_=>rfl
 | _ :: _,[],_ :: _,_,_,h,_=>by simp at h
 | _ :: _,_ :: _,[],_,_,h,_=>by simp at h
 | o :: os,v :: vs,v' :: vs',j,a,hl,h=>by
  simp only[Zv]
  have h0:=h 0
  simp only[Nat.add_zero,List.getElem?_cons_zero,Option.some.injEq] at h0
  have e:(if L j=true then a.put o.dst v else a)=(if L j=true then a.put o.dst v' else a):=by
   split
   . rw[h0 ‹_›]
   . rfl
  rw[e]
  exact VA os vs vs' (j+1) _ (by simpa using hl) fun r hr=>by
   have:=h (r+1) (by rwa [show j+(r+1)=j+1+r from by omega])
   simpa using this
theorem XZ {L:Nat->Bool}:∀ (os:List Oper) (vs:List Value) (j:Nat) (a:Act),(Zv L os vs j a).tmps.size=a.tmps.size
 | [],_,_,_=>by simp[Zv]
 | _ :: _,[],_,_=>by simp[Zv]
 | o :: os,v :: vs,j,a=>by
  simp only[Zv]
  rw[XZ os vs (j+1)]
  split <;> simp[NR]
theorem VR {o:Oper} {a a':Act} (hs:a.tmps.size=a'.tmps.size) (h:∀ t,t∈o.looksAt ops->a.eval (.tmp t)=a'.eval (.tmp t)) :
 Region.wanted o (yielded ops a.tmps)=Region.wanted o (yielded ops a'.tmps):=by
 unfold Region.wanted
 cases hg:o.guard with
 | none=>rfl
 | some gw =>
  obtain⟨g,want⟩:=gw
  have hy:yielded ops a.tmps g=yielded ops a'.tmps g:=by
   unfold yielded
   cases ht:(ops[g]?).bind (·.dst) with
   | none=>rfl
   | some t =>
    have he:=h t (by simp[Oper.looksAt,hg,ht])
    have:a.tmps[t]?=a'.tmps[t]?:=by
     simp only[Act.eval,Array.getD_eq_getD_getElem?] at he
     rcases Nat.lt_or_ge t a.tmps.size with h1 | h1
     . rw[Array.getElem?_eq_getElem h1,Array.getElem?_eq_getElem (hs ▸ h1)] at he ⊢
       simpa using he
     . rw[Array.getElem?_eq_none h1,Array.getElem?_eq_none (hs ▸ h1)]
    simp only[Option.bind_some,this]
  simp only[hy]
theorem KE {m g:Nat} {W:World} {ks:List (Want R)} {a:Act} {K:Act->World->Prop} (hrefl:∀ x,R x x) (htr:∀ x y z,R x y->R y z->R x z)
 (hsz:ops.size=m+g) (hsel:Region.noSelect ops=true) (hB:Wv ops m=true) (hback:We ops m=true)
 (htail:g=0\/(Region.sinkB .any ops m=true/\Region.chainB .any ops m=true))
 (hall:ZH P R ops W K 0 (ops.toList.take m) ks [] a)
 (hK:∀ (a':Act) (w':World) (listed:Array Bool),K a' w'->listed.size=ops.size->(∀ i,i<ops.size->listed.getD i false=decide (i<m))->wpAny P .any ops Q g listed a' w') :
 ∀ (f:Nat) (listed:Array Bool) (vs:List Value) (w:World),left m listed=f->HeadInv .any ops m listed->vs.length=m->(∀ (r:Nat) (c:Value),ks[r]?=some (Want.val c)->vs[r]?=some c) ->
  (∀ (r:Nat) (k:Want R) (v:Value),ks[r]?=some k->vs[r]?=some v->listed.getD r false=true->k.pred w v)->R W w ->
  wpAny P .any ops Q (f+g) listed (Zv (fun k=>listed.getD k false) (ops.toList.take m) vs 0 a) w:=by
 have hlen:(ops.toList.take m).length=m:=by simp;omega
 have hks:ks.length=m:=by rw[Yc _ _ _ _ _ hall,hlen]
 have hpre:∀ r,r<m->(ops.toList.take m)[r]?=ops[r]?:=fun r hr=>by
  rw[List.getElem?_take_of_lt hr];simp
 intro f
 induction f with
 | zero =>
  intro listed vs w hl inv hvl Oq hp hw
  have h1:=VF hl
  rw[Nat.zero_add,WH (L':=fun _=>true) _ _ _ _ (fun i _ hi=>h1 i (by omega))]
  refine hK _ _ listed (VQ _ ks vs 0 [] a hall (by omega) w hw trivial fun r k v hk hv=>hp r k v hk hv (h1 r ?_)) inv.size fun i hi=>?_
  . have:=(List.getElem?_eq_some_iff.1 hk).1;omega
  . rcases Nat.lt_or_ge i m with h2 | h2
    . rw[h1 i h2];simp[h2]
    . rw[getD_both (inv.tail i h2 hi)];simp;omega
 | succ f ih =>
  intro listed vs w hl inv hvl Oq hp hw
  rw[show f+1+g=(f+g)+1 from by omega]
  obtain⟨i0,hi0,hu0,hb0⟩:=Uc m (by omega:left m listed≠0)
  have KN:listed.getD i0 true=false:=getD_in (by rw[inv.size];omega) hu0
  refine⟨fun h0=>?_,fun i hi=>?_⟩
  . exfalso
    have h1:=List.all_eq_true.1 hback i0 (List.mem_range.2 hi0)
    have hlt:i0<ops.size:=by omega
    rw[Array.getElem?_eq_getElem hlt] at h1
    have h2:i0∈Region.ready .any ops listed:=by
     rw[mem_ready]
     refine⟨KN,ops[i0],Array.getElem?_eq_getElem hlt,fun e he hb=>?_⟩
     have:=Array.all_eq_true_iff_forall_mem.1 h1 e he
     simp[hb] at this
     exact hb0 _ this
    rw[h0] at h2
    cases h2
  . obtain⟨hun,o,ho,hafter⟩:=mem_ready.1 hi
    have hin:i<m:=by
     rcases Nat.lt_or_ge i m with h | h
     . exact h
     . rcases htail with h0 | ⟨Q8,U6⟩
       . have:=(Array.getElem?_eq_some_iff.1 ho).1;omega
       . have hlt:=(Array.getElem?_eq_some_iff.1 ho).1
         exact absurd hi (tail_waits Q8 U6 (by omega) inv _ i0 rfl hi0 KN i h)
    have hun':=getD_both hun
    have hisz:i<listed.size:=by rw[inv.size];omega
    have EP:=inv.set hi hin
    have hl':left m (listed.setIfInBounds i true)=f:=by have:=RF hisz hun' m hin;omega
    have hset:(listed.setIfInBounds i true).getD i false=true:=by simp[hisz]
    have so:=X0 hB hin ho
    obtain⟨k,hk⟩:∃ k,ks[i]?=some k:=⟨ks[i],List.getElem?_eq_getElem (by omega)⟩
    have VS:∀ r,Region.waitsFor .any ops i r=true->listed.getD r false=true:=fun r hr=>by
     obtain⟨oj,hoj,e,he,hb,hon⟩:=Region.waitsFor_spec hr
     have:oj=o:=Option.some.inj (hoj.symm.trans ho)
     subst this
     have h3:=hafter e he hb
     rwa [hon] at h3
    have hst:=KF (i:=i) _ ks vs 0 [] a o k hall ((hpre i hin).trans ho) hk (by omega) Oq w hw trivial
     (fun r k' v _ h1 h2 h3=>hp r k' v h1 h2 (VS r (by simpa using h3)))
    have hsame:∀ t,t∈o.looksAt ops->(Zv (fun k=>listed.getD k false) (ops.toList.take m) vs 0 a).eval (.tmp t)=(Zv (fun q=>decide (q<0+i)) (ops.toList.take m) vs 0 a).eval (.tmp t):=fun t hlook=>by
     refine VG _ _ _ _ _ rfl rfl fun r o' ho' hd=>?_
     have hrm:r<m:=by have:=(List.getElem?_eq_some_iff.1 ho').1;omega
     obtain⟨h1,h2⟩:=so.data r o' t hrm ((hpre r hrm).symm.trans ho') hd hlook
     simp only[Nat.zero_add]
     rw[VS r h2];simp[h1]
    have heq:execOp (Zv (fun k=>listed.getD k false) (ops.toList.take m) vs 0 a).eval o=execOp (Zv (fun q=>decide (q<0+i)) (ops.toList.take m) vs 0 a).eval o:=by
     refine execOp_congr o (fun cs b=>Region.noSelect_spec hsel i o cs b ho) fun x hx=>?_
     cases x with
     | tmp t=>exact hsame t (List.mem_append_left _ (List.mem_filterMap.2 ⟨.tmp t,by simpa using hx,rfl⟩))
     | _=>rfl
    have hwant:=VR (ops:=ops) (o:=o) (a:=Zv (fun k=>listed.getD k false) (ops.toList.take m) vs 0 a) (a':=Zv (fun q=>decide (q<0+i)) (ops.toList.take m) vs 0 a) (by rw[XZ,XZ]) hsame
    -- what follows an operation's outcome
    have next:∀ (u:Value) (w':World),R w w'->k.pred w' u->wpAny P .any ops Q (f+g) (listed.setIfInBounds i true) ((Zv (fun k=>listed.getD k false) (ops.toList.take m) vs 0 a).put o.dst u) w':=by
     intro u w' hR AL
     have EM:i<vs.length:=by omega
     have hfr:(Zv (fun k=>listed.getD k false) (ops.toList.take m) vs 0 a).put o.dst u=Zv (fun k=>(listed.setIfInBounds i true).getD k false) (ops.toList.take m) (vs.set i u) 0 a:=by
      rw[VA (L:=fun k=>listed.getD k false) (ops.toList.take m) vs (vs.set i u) 0 a (by simp) (fun r hr=>?_)]
      . rw[RG (L:=fun k=>listed.getD k false) (L':=fun k=>(listed.setIfInBounds i true).getD k false) (i:=i) (ops.toList.take m) (vs.set i u) 0 a o u ((hpre i hin).trans ho) (by simp[EM]) ?_ ?_ ?_ ?_]
        . intro r s x y hx hy hrs d hd
          have hsm:s<m:=by have:=(List.getElem?_eq_some_iff.1 hy).1;omega
          exact(X0 hB hsm ((hpre s hsm).symm.trans hy)).ap r x d hrs ((hpre r (by omega)).symm.trans hx) hd
        . simpa using hun'
        . simpa using hset
        . intro q hq;exact getD_set_ne false (by omega)
      . have:i≠r:=fun e=>by subst e;simp only[Nat.zero_add] at hr;rw[hun'] at hr;cases hr
        rw[List.getElem?_set_ne this]
     rw[hfr]
     refine ih _ (vs.set i u) w' hl' EP (by simpa using hvl) (fun r c hc=>?_) (fun r k' v hk' hv hlr=>?_) (htr _ _ _ hw hR)
     . by_cases e:i=r
       . subst e
         rw[hk] at hc
         cases hc
         have:u=c:=AL
         subst this
         simp[EM]
       . rw[List.getElem?_set_ne e];exact Oq r c hc
     . by_cases e:i=r
       . subst e
         rw[hk] at hk'
         cases hk'
         simp only[List.getElem?_set_self EM,Option.some.injEq] at hv
         subst hv
         exact AL
       . rw[List.getElem?_set_ne e] at hv
         rw[getD_set_ne false e] at hlr
         exact k'.keeps hR (hp r k' v hk' hv hlr)
    unfold wpOp
    simp only[ho]
    rcases hst with⟨hwt,hup⟩ | ⟨hwt,hup⟩
    . rw[if_pos (hwant.trans hwt)]
      refine .inl ?_
      unfold Oper.wp
      rw[heq]
      generalize (execOp (Zv (fun q=>decide (q<0+i)) (ops.toList.take m) vs 0 a).eval o).run P w=r at *
      cases r with
      | ok n w' =>
       cases n <;> simp only[Za] at hup <;> simp only[Oper.upon]
       case value u=>exact next u w' hup.1 hup.2
       case skip=>exact next undef w' hup.1 hup.2
       case enter fn args=>exact hup.mono fun e w'' ⟨u,he,h1,h2⟩=>by subst he;exact next u w'' h1 h2
      | halt x w'=>simp only[Za] at hup
    . rw[if_neg (by rw[hwant,hwt];simp)]
      exact next undef w (hrefl w) hup
def Want.Nw:Want R->Value
 | .val c=>c
 | .that _ _=>undef
theorem TR (ks:List (Want R)) (r:Nat) (c:Value) (h:ks[r]?=some (Want.val c)):(ks.map Want.Nw)[r]?=some c:=by
 simp[h,Want.Nw]
theorem WS {m g:Nat} {W:World} {ks:List (Want R)} {a:Act} {K:Act->World->Prop} (hrefl:∀ x,R x x) (htr:∀ x y z,R x y->R y z->R x z)
 (hsz:ops.size=m+g) (hsel:Region.noSelect ops=true) (hB:Wv ops m=true) (hback:We ops m=true)
 (htail:g=0\/(Region.sinkB .any ops m=true/\Region.chainB .any ops m=true))
 (hall:ZH P R ops W K 0 (ops.toList.take m) ks [] a)
 (hK:∀ (a':Act) (w':World) (listed:Array Bool),K a' w'->listed.size=ops.size->(∀ i,i<ops.size->listed.getD i false=decide (i<m))->wpAny P .any ops Q g listed a' w') :
 wpAny P .any ops Q ops.size (Array.replicate ops.size false) a W:=by
 have hz:∀ i,(Array.replicate ops.size false).getD i false=false:=fun i=>getD_replicate_false _ _
 have hlen:ks.length=m:=by
  rw[Yc _ _ _ _ _ hall];simp;omega
 have h:=KE (P:=P) (Q:=Q) hrefl htr hsz hsel hB hback htail hall hK m (Array.replicate ops.size false) (ks.map Want.Nw) W ?_ ?_ (by simpa using hlen) (TR ks)
  (fun r k v _ _ h=>by rw[hz r] at h;cases h) (hrefl W)
 . rw[XA _ _ _ _ (fun i _=>hz i),<- hsz] at h
   exact h
 . unfold left
   rw[List.countP_eq_length.2 (fun i _=>by rw[hz i];rfl)]
   simp
 . refine⟨by simp,fun j oj _ h=>?_,fun t ht ht'=>by simp[ht']⟩
   rw[hz j] at h;cases h
theorem Zm {id:Nat} {l:List Oper} {a:Act} {W:World} (R:World->World->Prop) (ks:List (Want R)) (hm:P.follows .mixedOrders=true) (hrefl:∀ x,R x x) (htr:∀ x y z,R x y->R y z->R x z)
 (hsel:Region.noSelect l.toArray=true) (hB:Wv l.toArray l.length=true) (hback:We l.toArray l.length=true)
 (hall:ZH P R l.toArray W.drew (fun a' w'=>Q .normal a' w') 0 l ks [] a):(Code.region id l.toArray true).wp P Q a W:=by
 refine wp_region_any hm ?_
 refine WS (P:=P) (ops:=l.toArray) (Q:=Q) (m:=l.length) (g:=0) (W:=W.drew) (ks:=ks) (K:=fun a' w'=>Q .normal a' w') hrefl htr (by simp) hsel hB hback (.inl rfl) (by simpa using hall) fun a' w' listed hk hs hL=>?_
 refine⟨?_,hk⟩
 refine List.eq_nil_iff_forall_not_mem.2 fun i hi=>?_
 obtain⟨hun,o,ho,_⟩:=mem_ready.1 hi
 have hlt:=(Array.getElem?_eq_some_iff.1 ho).1
 have:=hL i hlt
 rw[getD_both hun] at this
 simp at this hlt
 omega
theorem ZK {id:Nat} {l:List Oper} {a:Act} {W:World} (R:World->World->Prop) (m:Nat) (ks:List (Want R)) (hm:P.follows .mixedOrders=true) (hrefl:∀ x,R x x) (htr:∀ x y z,R x y->R y z->R x z)
 (hlt:m<=l.length) (hsel:Region.noSelect l.toArray=true) (hB:Wv l.toArray m=true) (hback:We l.toArray m=true)
 (Q8:Region.sinkB .any l.toArray m=true) (U6:Region.chainB .any l.toArray m=true) (hseq:Region.seqB .any l.toArray (l.drop m).length m (YL m (l.drop m).length)=true)
 (hall:ZH P R l.toArray W.drew (fun a' w'=>wpList P l.toArray Q (l.drop m) a' w') 0 (l.take m) ks [] a):(Code.region id l.toArray true).wp P Q a W:=by
 refine wp_region_any hm ?_
 have hsz:l.toArray.size=m+(l.drop m).length:=by simp;omega
 refine WS (P:=P) (ops:=l.toArray) (Q:=Q) (m:=m) (g:=(l.drop m).length) (W:=W.drew) (ks:=ks) (K:=fun a' w'=>wpList P l.toArray Q (l.drop m) a' w') hrefl htr hsz hsel hB hback (.inr ⟨Q8,U6⟩) (by simpa using hall) fun a' w' listed hk hs hL=>?_
 have e:listed=YL m (l.drop m).length:=by
  apply Array.ext
  . rw[hs,hsz];simp[YL]
  . intro i h1 h2
    have h3:=hL i (by omega)
    simp[h1] at h3
    simp[YL,h3]
 rw[e]
 exact wpAny_of_seq (l.drop m) m _ a' w' (fun j=>by simp[List.getElem?_drop]) hseq hk
def Grown (w w':World):Prop:=Below w.heap.size w w'
theorem Grown.refl (w:World):Grown w w:=Below.refl _ _
theorem ol {α:Sort _} {x:α} {b c:Prop} (h:b):(x=x/\b)\/c := Or.inl ⟨rfl, h⟩
theorem gl {α:Sort _} {x:α} {w:World}:Grown w w/\x=x := ⟨Grown.refl _, rfl⟩
theorem ur {α β:Sort _} {x:α} {y:β} {c:Prop}:c\/(x=x/\y=y) := Or.inr ⟨rfl, rfl⟩
theorem Grown.trans (x y z:World) (h:Grown x y) (k:Grown y z):Grown x z:=grow h k
theorem Grown.drew (w:World):Grown w w.drew:=(Below.refl _ _).drew
end
theorem pu (l:List Value) (d) (n:Nat) (c:Value):Act.put ⟨l.toArray, d⟩ (some n) c=⟨(l.set n c).toArray, d⟩ := by simp[Act.put]
theorem pn (a:Act) (c:Value):a.put none c=a := rfl
theorem s0 {α} (a:α) (l:List α) (b:α):List.set (a :: l) 0 b=b :: l := rfl
theorem s1 {α} (a:α) (l:List α) (n:Nat) (b:α):List.set (a :: l) (n+1) b=a :: l.set n b := rfl
section
variable {P:Program} {ops:Array Oper} {Q:Exit→Act→World→Prop} {R:World→World→Prop} {W:World} {K:Act→World→Prop} {i:Nat} {o:Oper} {os:List Oper} {ks:List (Want R)} {env:List (Nat × (World→Prop))} {a:Act} {c:Value}
theorem rV (h1:∀ w', R W w'→XX ops i w' env→Ux P R ops o a w' (Want.val (R := R) c).pred) (h2:ZH P R ops W K (i+1) os ks env (a.put o.dst c)):ZH P R ops W K i (o :: os) (.val c :: ks) env a := ⟨h1, h2⟩
theorem XW (h1:∀ w', R W w'→XX ops i w' env→Ux P R ops o a w' (Want.val (R := R) c).pred) (h2:∀ w', R W w'→XQ w' env→K (a.put o.dst c) w'):ZH P R ops W K i [o] [.val c] env a := ⟨h1, h2⟩
theorem mM (k:Want R) (h:ZH P R ops W K i [o] [k] env a):ZH P R ops W K i [o] [k] env a := h
theorem yE {id:Nat} {l:List Oper} {ks:List (Want Grown)} (hc:(P.follows .mixedOrders && Region.noSelect l.toArray && Wv l.toArray l.length && We l.toArray l.length)=true) (hall:ZH P Grown l.toArray W.drew (fun a' w' => Q .normal a' w') 0 l ks [] a):(Code.region id l.toArray true).wp P Q a W := by
  simp only[Bool.and_eq_true] at hc
  obtain⟨⟨⟨h1, h2⟩, h3⟩, h4⟩ := hc
  exact Zm Grown ks h1 Grown.refl Grown.trans h2 h3 h4 hall
theorem Xy (m:Nat) {id:Nat} {l:List Oper} {ks:List (Want Grown)} (hc:(P.follows .mixedOrders && decide (m≤l.length) && Region.noSelect l.toArray && Wv l.toArray m && We l.toArray m && Region.sinkB .any l.toArray m && Region.chainB .any l.toArray m && Region.seqB .any l.toArray (l.drop m).length m (YL m (l.drop m).length))=true) (hall:ZH P Grown l.toArray W.drew (fun a' w' => wpList P l.toArray Q (l.drop m) a' w') 0 (l.take m) ks [] a):(Code.region id l.toArray true).wp P Q a W := by
  simp only[Bool.and_eq_true, decide_eq_true_eq] at hc
  obtain⟨⟨⟨⟨⟨⟨⟨h1, h2⟩, h3⟩, h4⟩, h5⟩, h6⟩, h7⟩, h8⟩ := hc
  exact ZK Grown m ks h1 Grown.refl Grown.trans h2 h3 h4 h5 h6 h7 h8 hall
end
theorem cb {P:Program} {f:FuncId} {args:Array Value} {w:World} {v:Value} (h:Calls P f args w fun e w' => e=.returned v∧Below w.heap.size w w'):Calls P f args w fun e w'' => ∃ u, e=.returned u∧Grown w w''∧u=v := h.mono fun _ _ ⟨a, b⟩ => ⟨v, a, b, rfl⟩
theorem cc {P:Program} {f:FuncId} {args:Array Value} {w:World} {v:Value} (h:Calls P f args w fun e w' => e=.returned v∧w'=w):Calls P f args w fun e w'' => ∃ u, e=.returned u∧Grown w w''∧u=v := h.mono fun _ _ ⟨a, b⟩ => ⟨v, a, b ▸ Grown.refl _, rfl⟩
end
section
def Va (s j:Nat):Int:=if j+1<s then (j:Int)+2 else 0
def Mm.laid (t s len:Nat):Nat->Mm
 | 0=>(Mm.fresh len).step 1 1
 | j+1=>((Mm.laid t s len j).step (6+t+j * 2) 8388608).step (6+t+j * 2+1) (Va s j)
theorem Mm.Pm (t s len j:Nat):(Mm.laid t s len j).n=len:=by
 induction j with
 | zero=>rfl
 | succ j ih=>exact ih
structure Good (t s k n:Nat) (g p r:Int):Prop where
 t0:1<=t
 t1:t<=8
 s0:1<=s
 s1:s<=65536
 k0:1<=k
 k1:k<=64
 n0:17<=n
 n1:n<=256
 g0:1<=g
 g1:g<=65535
 p0:0<=p
 p1:p<=1000
 r0:1<=r
 r1:r<=16
theorem Good.arena {t s k n:Nat} {g p r:Int} (h:Good t s k n g p r):Yu t s k n:=by
 obtain⟨t0,t1,s0,s1,k0,k1,n0,n1,g0,g1,p0,p1,r0,r1⟩:=h
 constructor <;> omega
theorem Good.may {t s k n:Nat} {g p r:Int} (h:Good t s k n g p r):may t s k n g p r=true:=by
 obtain⟨t0,t1,s0,s1,k0,k1,n0,n1,g0,g1,p0,p1,r0,r1⟩:=h
 simp[Go.Proofs.YtgehjolndmgffaaGreat.may,win,g0,g1,p0,p1,r0,r1]
 omega
def ZI (t s k n:Nat):Nat:=6+t+s * 2+k * 3+k * n
theorem Good.words {t s k n:Nat} {g p r:Int} (h:Good t s k n g p r):k * n<=16384:=Nat.mul_le_mul h.k1 h.n1
theorem Vo {t s k n:Nat} {g p r:Int} (h:Good t s k n g p r) (w:World) :
 Calls Tryz.prog 45 #[.agg #[iV t,iV s,iV k,iV n,iV g,iV p,iV r]] w fun e w'=>e=.returned (.bool true)/\Below w.heap.size w w':=by
 have:=Rq t s k n g p r w
 rwa [h.may] at this
theorem Uk {t s k n:Nat} {g p r:Int} (h:Good t s k n g p r) (w:World) :
 Calls Tryz.prog 47 #[.agg #[iV t,iV s,iV k,iV n,iV g,iV p,iV r]] w fun e w'=>e=.returned (iV (ZI t s k n:Nat))/\Below w.heap.size w w':=by
 have hw:=h.words
 have e:=Fb t s k n g p r ((k * n:Nat):Int) w h.arena (by simp) (by omega) (by omega)
 refine e.mono fun e w' ⟨he,hb⟩=>⟨?_,hb⟩
 rw[he]
 exact Zi (by unfold ZI;omega)
theorem Iq (w:World):Calls Tryz.prog 50 #[iV 0,iV 0] w fun e w'=>e=.returned (.int .u64 1)/\w'=w :=
 U9 0 0 w (by decide) (by decide) (by unfold Fit;decide)
theorem Ip (w:World):Calls Tryz.prog 52 #[.agg #[iV 0,iV 0,iV 1,iV 0]] w fun e w'=>e=.returned (.int .u64 8388608)/\Below w.heap.size w w' :=
 Yo 0 0 1 0 w (by unfold Fit;decide) (by unfold Fit;decide) (by unfold Fit;decide) (by unfold Fit;decide)
def WB (s j:Nat):Int:=if j+1<s then (j:Int)+1 else -1
theorem Io (t s k n:Nat) (g p r:Int) (j:Nat) (w:World) (hj:j<65536) :
 Calls Tryz.prog 53 #[.agg #[iV t,iV s,iV k,iV n,iV g,iV p,iV r],iV j] w fun e w'=>e=.returned (iV (WB s j))/\Below w.heap.size w w':=by
 unfold WB
 by_cases h:j+1<s
 . rw[if_pos h];exact E8 t s k n g p r j w (by omega) (by omega) (by omega)
 . rw[if_neg h];exact Iz t s k n g p r j w (by omega) (by omega) (by omega)
theorem EZ (s j:Nat) (hs:s<=65536) (w:World):Calls Tryz.prog 50 #[iV (WB s j),iV 0] w fun e w'=>e=.returned (.int .u64 (Va s j))/\w'=w:=by
 have e:=U9 (WB s j) 0 w (by unfold WB;split <;> omega) (by unfold WB;split <;> omega) (by unfold Fit;decide)
 have h:Qo (WB s j+1) 0=Va s j:=by
  unfold WB Va Qo
  rw[Ze 0 36 (by omega) (by decide)]
  split
  . rw[Ze _ 17 (by omega) (by simp;omega)];omega
  . rfl
 rwa [h] at e
theorem XR.only {w w':World} {S:Nat->Prop} {b:Nat} {t s k n g p r:Int} (h:XR w b t s k n g p r) (o:Only S w w') (hs:¬ S b):XR w' b t s k n g p r :=
 ⟨o.keep hs h.c0,o.keep hs h.c1,o.keep hs h.c2,o.keep hs h.c3,o.keep hs h.c4,o.keep hs h.c5,o.keep hs h.c6⟩
theorem JB {w a b:World} {L:Loc} (h:Below w.heap.size w a) (o:Only L.has a b) (hc:∀ k,L.has k->w.heap.size<=k):Below w.heap.size w b :=
 h.trans (o.below h.size (fun i hi hs=>by have:=hc i hs;omega))
set_option maxHeartbeats 1000000 in
theorem LV {t s k n:Nat} {g p r:Int} (h:Good t s k n g p r) (w:World) :
 Calls Tryz.prog 36 #[.agg #[iV t,iV s,iV k,iV n,iV g,iV p,iV r]] w fun e w'=>∃ L:Loc,e=.returned (.tuple #[pP L.p 0,iV 0])/\Z8 w' L (Mm.laid t s (ZI t s k n) s)/\Below w.heap.size w w'/\∀ k,L.has k->w.heap.size<=k:=by
 have hA:=h.arena
 have hwd:=h.words
 have hs1:=h.s1
 have ht1:=h.t1
 have hk1:=h.k1
 have hlen:ZI t s k n<=200000/\1<ZI t s k n:=by unfold ZI;omega
 go_enter Tryz.func36,Tryz.ntmps36
 go_wp2_with (first
  | (go_at_call 45;refine(Vo h _).mono ?_;rintro e w1 ⟨rfl,b1⟩;have c1:=XR.new.grown b1;have e0:=c1.c0;have e1:=c1.c1;have e2:=c1.c2;have e3:=c1.c3;have e4:=c1.c4;have e5:=c1.c5;have e6:=c1.c6)
  | (go_at_call 47;refine(Uk h _).mono ?_;rintro e w2 ⟨rfl,b2⟩)
  | (go_at_call 46;refine(yZ (ZI t s k n) (by omega) (by omega) _).mono ?_;rintro e w3 ⟨L,rfl,m3,b3,f3⟩)
  | (go_at_call 49;refine(Xq _).mono ?_;rintro e w4 ⟨rfl,rfl⟩)
  | (go_at_call 50;refine(Iq _).mono ?_;rintro e w5 ⟨rfl,rfl⟩)
  | (go_at_call 48;refine(UH m3 1 (by have:=hlen.2;exact this) 1).mono ?_;rintro e w6 ⟨rfl,m6,o6,z6⟩;have c6:=(((c1.grown b2).grown b3).only o6 (fun hL=>by have:=f3 _ hL;have:=b2.size;have:=b1.size;simp at this;omega));have x1:=c6.c1))
 have hB:Below w.heap.size w w6:=JB (grow (grow (grow (Z7 (Below.refl _ _) _) b1) b2) b3) o6 (fun k hk=>by have:=f3 k hk;have:=b2.size;have:=b1.size;simp at *;omega)
 have hL:∀ i,L.has i->w.heap.size<i:=fun k hk=>by have:=f3 k hk;have:=b2.size;have:=b1.size;simp at *;omega
 clear b1 b2 b3 o6 z6 e0 e1 e2 e3 e4 e5 e6 c1 m3 f3
 have qR:Z8 w6 L (Mm.laid t s (ZI t s k n) 0):=m6
 clear m6
 go_loopw [6,25] (fun _ i wr=>∃ j:Nat,j<=s/\i=iV j/\Z8 wr L (Mm.laid t s (ZI t s k n) j)/\XR wr w.heap.size t s k n g p r/\Below w.heap.size w wr) (fun _ i _=>s - (intOf i).toNat)
 case atStart=>exact⟨0,by omega,rfl,qR,c6,hB⟩
 case round =>
  clear qR c6 hB x1
  obtain⟨j,hj,rfl,hm,hc,hb⟩:=hrel
  by_cases hlt:j<s
  . have hlt':(j:Int)<(s:Int):=by omega
    have e0:=hc.c0
    have e1:=hc.c1
    have e2:=hc.c2
    have e3:=hc.c3
    have e4:=hc.c4
    have e5:=hc.c5
    have e6:=hc.c6
    go_wp2_with (first
     | (go_at_call 51;refine(Y4 _ _ _ _ _ _ _ _ _ hA (by omega) (by omega)).mono ?_;rintro e w1 ⟨rfl,b1⟩)
     | (go_at_call 52;refine(Ip _).mono ?_;rintro e w2 ⟨rfl,b2⟩)
     | (go_at_call 48;refine(UH ((hm.below b1).below b2) (6+t+j * 2) (by rw[Mm.Pm];unfold ZI;omega) _).mono ?_;rintro e w3 ⟨rfl,m3,o3,z3⟩))
    have c3:XR w3 w.heap.size t s k n g p r:=((hc.grown b1).grown b2).only o3 (fun hh=>by have:=hL _ hh;omega)
    have hb3:Below w.heap.size w w3:=JB (grow (grow hb b1) b2) o3 (fun i hi=>by have:=hL i hi;omega)
    clear b1 b2 o3 z3 e0 e1 e2 e3 e4 e5 e6 hc hm hb
    refine ZK Grown 9 [.val (pP L.p 0),.val (.agg #[iV t,iV s,iV k,iV n,iV g,iV p,iV r]),.val (iV j),.val (iV (6+t+j * 2)),.val (iV (6+t+j * 2+1)),
     .val (.agg #[iV t,iV s,iV k,iV n,iV g,iV p,iV r]),.val (iV j),.val (iV (WB s j)),.val (.int .u64 (Va s j))] (by kernel_rfl) Grown.refl Grown.trans (by decide) (by kernel_rfl) (by kernel_rfl) (by kernel_rfl) (by kernel_rfl) (by kernel_rfl) (by kernel_rfl) ?_
    simp only[List.take_succ_cons,List.take_zero,ZH,Act.put,List.setIfInBounds_toArray,List.set_cons_zero,List.set_cons_succ]
    refine⟨?_,?_,?_,?_,?_,?_,?_,?_,?_,?_⟩
    . intros;apply ol;go_simp;exact gl
    . intro w' hg _;apply ol;have cc:=c3.grown (Grown.trans _ _ _ (Grown.drew w3) hg);have e0:=cc.c0;have e1:=cc.c1;have e2:=cc.c2;have e3:=cc.c3;have e4:=cc.c4;have e5:=cc.c5;have e6:=cc.c6;go_simp;exact gl
    . intros;apply ol;go_simp;exact gl
    . intro w' hg _;apply ol;go_simp;refine(Y4 _ _ _ _ _ _ _ _ _ hA (by omega) (by omega)).mono ?_;rintro e w'' ⟨rfl,b1⟩;exact⟨_,rfl,b1,rfl⟩
    . intro w' hg _;apply ol;go_simp;exact⟨Grown.refl _,by simp only[Want.pred];congr 1;rw[IntKind.wrap_i64];omega⟩
    . intro w' hg _;apply ol;have cc:=c3.grown (Grown.trans _ _ _ (Grown.drew w3) hg);have e0:=cc.c0;have e1:=cc.c1;have e2:=cc.c2;have e3:=cc.c3;have e4:=cc.c4;have e5:=cc.c5;have e6:=cc.c6;go_simp;exact gl
    . intros;apply ol;go_simp;exact gl
    . intro w' hg _;apply ol;go_simp;refine(Io _ _ _ _ _ _ _ _ _ (by omega)).mono ?_;rintro e w'' ⟨rfl,b1⟩;exact⟨_,rfl,b1,rfl⟩
    . intro w' hg _;apply ol;go_simp;exact cc (EZ _ _ hs1 _)
    . intro w' hg _
      have hg':=Grown.trans _ _ _ (Grown.drew w3) hg
      simp only[List.drop_succ_cons,List.drop_zero]
      go_wp2_with ((go_at_call 48;refine(UH (m3.below hg') (6+t+j * 2+1) (by show _<(Mm.laid t s (ZI t s k n) j).n;rw[Mm.Pm];unfold ZI;omega) _).mono ?_;rintro e w5 ⟨rfl,m5,o5,z5⟩))
      go_roundw
      case rel=>exact⟨j+1,by omega,by go_num,m5,(c3.grown hg').only o5 (fun hh=>by have:=hL _ hh;omega),JB (grow hb3 hg') o5 (fun i hi=>by have:=hL i hi;omega)⟩
      case measure=>simp[intOf];omega
  . have hlt':¬ (j:Int)<(s:Int):=by omega
    rw[show j=s by omega] at hm
    clear hc
    go_wp2
    go_ret2
    exact⟨L,rfl,hm,hb,fun i hi=>by have:=hL i hi;omega⟩
end
section
structure ZP (w:World) (b:Nat) (c0 c1 c2 c3 c4 c5 c6:Int) (P:Nat) (who:Int):Prop where
 c0:w.cell? ⟨b,0,none⟩=some (iV c0)
 c1:w.cell? ⟨b,1,none⟩=some (iV c1)
 c2:w.cell? ⟨b,2,none⟩=some (iV c2)
 c3:w.cell? ⟨b,3,none⟩=some (iV c3)
 c4:w.cell? ⟨b,4,none⟩=some (iV c4)
 c5:w.cell? ⟨b,5,none⟩=some (iV c5)
 c6:w.cell? ⟨b,6,none⟩=some (iV c6)
 c7:w.cell? ⟨b,7,none⟩=some (pP P 0)
 c8:w.cell? ⟨b,8,none⟩=some (iV who)
section
variable {w w':World} {b P:Nat} {c0 c1 c2 c3 c4 c5 c6 who:Int}
theorem ZP.new {T:TypeId}:ZP (w.alloc (.cells #[iV c0,iV c1,iV c2,iV c3,iV c4,iV c5,iV c6,pP P 0,iV who] T)) w.heap.size c0 c1 c2 c3 c4 c5 c6 P who:=by
 constructor <;> simp
theorem ZP.grown (h:ZP w b c0 c1 c2 c3 c4 c5 c6 P who) (g:Below w.heap.size w w'):ZP w' b c0 c1 c2 c3 c4 c5 c6 P who :=
 ⟨keep' g h.c0,keep' g h.c1,keep' g h.c2,keep' g h.c3,keep' g h.c4,keep' g h.c5,keep' g h.c6,keep' g h.c7,keep' g h.c8⟩
theorem ZP.only {S:Nat->Prop} (h:ZP w b c0 c1 c2 c3 c4 c5 c6 P who) (o:Only S w w') (hs:¬ S b):ZP w' b c0 c1 c2 c3 c4 c5 c6 P who :=
 ⟨o.keep hs h.c0,o.keep hs h.c1,o.keep hs h.c2,o.keep hs h.c3,o.keep hs h.c4,o.keep hs h.c5,o.keep hs h.c6,o.keep hs h.c7,o.keep hs h.c8⟩
end
def Loc.and (L:Loc) (b k:Nat):Prop:=L.has k\/k=b
section
variable {P:Program} {Q:Exit→Act→World→Prop} {c:Code} {x:Act} {A:World→Prop} {w:World} {L:Loc} {s:Mm} {c0 c1 c2 c3 c4 c5 c6 who:Int} {T:TypeId}
theorem wo (b:Nat) (h:Z8 w L s) (hA:∀ w', Below w.heap.size w w'→A w') (K:∀ W, (Z8 W L s∧A W∧ZP W w.heap.size c0 c1 c2 c3 c4 c5 c6 L.p who∧Only (L.and b) w W)→c.wp P Q x W):c.wp P Q x (w.alloc (.cells #[iV c0, iV c1, iV c2, iV c3, iV c4, iV c5, iV c6, .pointer (some ⟨L.p, 0, none⟩), iV who] T)) := K _ ⟨h.alloc _, hA _ (Z7 (Below.refl _ _) _), ZP.new, (Only.refl _ _).alloc _⟩
theorem ng (b:Nat) (h:Z8 w L s) (hA:∀ w', Below w.heap.size w w'→A w') (K:∀ W, (Z8 W L s∧A W∧ZP W w.heap.size c0 c1 c2 c3 c4 c5 c6 L.p who∧Only (L.and b) w W∧Below w.heap.size w W)→c.wp P Q x W):c.wp P Q x (w.alloc (.cells #[iV c0, iV c1, iV c2, iV c3, iV c4, iV c5, iV c6, .pointer (some ⟨L.p, 0, none⟩), iV who] T)) := K _ ⟨h.alloc _, hA _ (Z7 (Below.refl _ _) _), ZP.new, (Only.refl _ _).alloc _, Z7 (Below.refl _ _) _⟩
end
end
end Go.Proofs.YtgehjolndmgffaaGreat
