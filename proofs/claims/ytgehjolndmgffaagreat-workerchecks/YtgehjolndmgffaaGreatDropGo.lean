import Derived.Test.YtgehjolndmgffaaGreatPhase
import Derived.Test.YtgehjolndmgffaaGreatAllocSolo
import Derived.Test.YtgehjolndmgffaaGreatDropHelp
namespace Go.Proofs.YtgehjolndmgffaaGreat
open Go.RowKit
section
section
variable {P:Program} {ops:Array Oper} {Q:Exit->Act->World->Prop} {R:World->World->Prop}
variable {G:World->World->Prop} {Φ:Nat->World->Prop} {ws:List Nat}
theorem O0 {m g:Nat} {W:World} {ks:List (Want R)} {a:Act} {K:Act->World->Prop} (htr:∀ x y z,R x y->R y z->R x z) (BO:∀ x y,G x y->R x y) (O5:∀ x y p,G x y->Φ p x->Φ p y)
 (hsz:ops.size=m+g) (htail:g=0\/(Region.sinkB .any ops m=true/\Region.chainB .any ops m=true)) (hsel:Region.noSelect ops=true) (hB:Wv ops m=true) (hback:We ops m=true) (hfo:Yd ops ws=true) (hwm:ws.all (·<m)=true)
 (hall:Zo P R G Φ ws ops W K 0 (ops.toList.take m) ks [] a)
 (hK:∀ (a':Act) (w':World) (listed:Array Bool),K a' w'->listed.size=ops.size->(∀ i,i<ops.size->listed.getD i false=decide (i<m))->wpAny P .any ops Q g listed a' w') :
 ∀ (f:Nat) (listed:Array Bool) (vs:List Value) (w:World),left m listed=f->HeadInv .any ops m listed->vs.length=m->(∀ (r:Nat) (c:Value),ks[r]?=some (Want.val c)->vs[r]?=some c) ->
  (∀ (r:Nat) (k:Want R) (v:Value),ks[r]?=some k->vs[r]?=some v->listed.getD r false=true->k.pred w v)->R W w->Φ (doneN ws listed) w ->
  wpAny P .any ops Q (f+g) listed (Zv (fun k=>listed.getD k false) (ops.toList.take m) vs 0 a) w:=by
 have hlen:(ops.toList.take m).length=m:=by simp;omega
 have hks:ks.length=m:=by rw[YX _ _ _ _ _ hall,hlen]
 have hpre:∀ r,r<m->(ops.toList.take m)[r]?=ops[r]?:=fun r hr=>by
  rw[List.getElem?_take_of_lt hr];simp
 intro f
 induction f with
 | zero =>
  intro listed vs w hl inv hvl Oq hp hw hΦ
  have h1:=VF hl
  rw[Nat.zero_add,WH (L':=fun _=>true) _ _ _ _ (fun i _ hi=>h1 i (by omega))]
  have hdone:doneN ws listed=ws.length:=by
   unfold doneN
   rw[List.countP_eq_length]
   intro c hc
   exact h1 c (by simpa using List.all_eq_true.1 hwm c hc)
  rw[hdone] at hΦ
  refine hK _ _ listed (XE _ ks vs 0 [] a hall (by omega) w hw hΦ trivial fun r k v hk hv=>hp r k v hk hv (h1 r ?_)) inv.size fun i hi=>?_
  . have:=(List.getElem?_eq_some_iff.1 hk).1;omega
  . rcases Nat.lt_or_ge i m with h2 | h2
    . rw[h1 i h2];simp[h2]
    . rw[getD_both (inv.tail i h2 hi)];simp;omega
 | succ f ih =>
  intro listed vs w hl inv hvl Oq hp hw hΦ
  rw[show f+1+g=(f+g)+1 from by omega]
  obtain⟨i0,hi0,hu0,hb0⟩:=Uc m (by omega:left m listed≠0)
  have KN:listed.getD i0 true=false:=getD_in (by rw[inv.size];omega) hu0
  refine⟨fun h0=>?_,fun i hi=>?_⟩
  . exfalso
    have h1:=List.all_eq_true.1 hback i0 (List.mem_range.2 hi0)
    have hlt:i0<ops.size:=by omega
    rw[Array.getElem?_eq_getElem hlt] at h1
    have h2:i0∈Region.ready .any ops listed:=by
     rw[mem_ready]
     refine⟨KN,ops[i0],Array.getElem?_eq_getElem hlt,fun e he hb=>?_⟩
     have:=Array.all_eq_true_iff_forall_mem.1 h1 e he
     simp[hb] at this
     exact hb0 _ this
    rw[h0] at h2
    cases h2
  . obtain⟨hun,o,ho,hafter⟩:=mem_ready.1 hi
    have hin:i<m:=by
     rcases Nat.lt_or_ge i m with h | h
     . exact h
     . rcases htail with h0 | ⟨Q8,U6⟩
       . have:=(Array.getElem?_eq_some_iff.1 ho).1;omega
       . have hlt:=(Array.getElem?_eq_some_iff.1 ho).1
         exact absurd hi (tail_waits Q8 U6 (by omega) inv _ i0 rfl hi0 KN i h)
    have hun':=getD_both hun
    have hisz:i<listed.size:=by rw[inv.size];omega
    have EP:=inv.set hi hin
    have hl':left m (listed.setIfInBounds i true)=f:=by have:=RF hisz hun' m hin;omega
    have hset:(listed.setIfInBounds i true).getD i false=true:=by simp[hisz]
    have so:=X0 hB hin ho
    obtain⟨k,hk⟩:∃ k,ks[i]?=some k:=⟨ks[i],List.getElem?_eq_getElem (by omega)⟩
    have VS:∀ r,Region.waitsFor .any ops i r=true->listed.getD r false=true:=fun r hr=>by
     obtain⟨oj,hoj,e,he,hb,hon⟩:=Region.waitsFor_spec hr
     have:oj=o:=Option.some.inj (hoj.symm.trans ho)
     subst this
     have h3:=hafter e he hb
     rwa [hon] at h3
    have Q9:=TB (i:=i) _ ks vs 0 [] a o k hall ((hpre i hin).trans ho) hk (by omega) Oq w hw trivial
     (fun r k' v _ h1 h2 h3=>hp r k' v h1 h2 (VS r (by simpa using h3)))
    rw[Nat.zero_add] at Q9
    -- what the operation does,whichever it is
    have hst:VB P (fun x y=>R x y/\Φ (doneN ws (listed.setIfInBounds i true)) y) ops o (Zv (fun q=>decide (q<i)) (ops.toList.take m) vs 0 a) w k.pred:=by
     have weak:∀ {E:World->World->Prop} {E':World->World->Prop} (φ:World->Value->Prop) (x:World) (r:Result Next),(∀ y,E x y->E' x y)->Za P E x φ r->Za P E' x φ r:=by
      intro E E' φ x r hE h
      cases r with
      | ok n w' =>
       cases n <;> simp only[Za] at h ⊢
       case value u=>exact⟨hE _ h.1,h.2⟩
       case skip=>exact⟨hE _ h.1,h.2⟩
       case enter fn args=>exact h.mono fun e w'' ⟨u,he,h1,h2⟩=>⟨u,he,hE _ h1,h2⟩
      | halt x w'=>simp only[Za] at h
     cases EO:Y0 ws i with
     | some p =>
      rw[EO] at Q9
      have hd:=O8 inv hfo hi EO
      rw[hd] at hΦ
      rw[Nz inv hfo hi hin hisz EO]
      rcases Q9 hΦ with⟨h1,h2⟩ | ⟨h1,h2,h3⟩
      . exact .inl ⟨h1,weak _ _ _ (fun y hy=>hy) h2⟩
      . exact .inr ⟨h1,h2,h3⟩
     | none =>
      rw[EO] at Q9
      rw[Qm EO]
      rcases Q9 with⟨h1,h2⟩ | ⟨h1,h2,h3⟩
      . exact .inl ⟨h1,weak _ _ _ (fun y hy=>⟨BO _ _ hy,O5 _ _ _ hy hΦ⟩) h2⟩
      . exact .inr ⟨h1,⟨BO _ _ h2,O5 _ _ _ h2 hΦ⟩,h3⟩
    have hsame:∀ t,t∈o.looksAt ops->(Zv (fun k=>listed.getD k false) (ops.toList.take m) vs 0 a).eval (.tmp t)=(Zv (fun q=>decide (q<i)) (ops.toList.take m) vs 0 a).eval (.tmp t):=fun t hlook=>by
     refine VG _ _ _ _ _ rfl rfl fun r o' ho' hd=>?_
     have hrm:r<m:=by have:=(List.getElem?_eq_some_iff.1 ho').1;omega
     obtain⟨h1,h2⟩:=so.data r o' t hrm ((hpre r hrm).symm.trans ho') hd hlook
     simp only[Nat.zero_add]
     rw[VS r h2];simp[h1]
    have heq:execOp (Zv (fun k=>listed.getD k false) (ops.toList.take m) vs 0 a).eval o=execOp (Zv (fun q=>decide (q<i)) (ops.toList.take m) vs 0 a).eval o:=by
     refine execOp_congr o (fun cs b=>Region.noSelect_spec hsel i o cs b ho) fun x hx=>?_
     cases x with
     | tmp t=>exact hsame t (List.mem_append_left _ (List.mem_filterMap.2 ⟨.tmp t,by simpa using hx,rfl⟩))
     | _=>rfl
    have hwant:=VR (ops:=ops) (o:=o) (a:=Zv (fun k=>listed.getD k false) (ops.toList.take m) vs 0 a) (a':=Zv (fun q=>decide (q<i)) (ops.toList.take m) vs 0 a) (by rw[XZ,XZ]) hsame
    -- what follows an operation's outcome
    have next:∀ (u:Value) (w':World),(R w w'/\Φ (doneN ws (listed.setIfInBounds i true)) w')->k.pred w' u->wpAny P .any ops Q (f+g) (listed.setIfInBounds i true) ((Zv (fun k=>listed.getD k false) (ops.toList.take m) vs 0 a).put o.dst u) w':=by
     intro u w' EN AL
     have hR:=EN.1
     have EM:i<vs.length:=by omega
     have hfr:(Zv (fun k=>listed.getD k false) (ops.toList.take m) vs 0 a).put o.dst u=Zv (fun k=>(listed.setIfInBounds i true).getD k false) (ops.toList.take m) (vs.set i u) 0 a:=by
      rw[VA (L:=fun k=>listed.getD k false) (ops.toList.take m) vs (vs.set i u) 0 a (by simp) (fun r hr=>?_)]
      . rw[RG (L:=fun k=>listed.getD k false) (L':=fun k=>(listed.setIfInBounds i true).getD k false) (i:=i) (ops.toList.take m) (vs.set i u) 0 a o u ((hpre i hin).trans ho) (by simp[EM]) ?_ ?_ ?_ ?_]
        . intro r s x y hx hy hrs d hd
          have hsm:s<m:=by have:=(List.getElem?_eq_some_iff.1 hy).1;omega
          exact(X0 hB hsm ((hpre s hsm).symm.trans hy)).ap r x d hrs ((hpre r (by omega)).symm.trans hx) hd
        . simpa using hun'
        . simpa using hset
        . intro q hq;exact getD_set_ne false (by omega)
      . have:i≠r:=fun e=>by subst e;simp only[Nat.zero_add] at hr;rw[hun'] at hr;cases hr
        rw[List.getElem?_set_ne this]
     rw[hfr]
     refine ih _ (vs.set i u) w' hl' EP (by simpa using hvl) (fun r c hc=>?_) (fun r k' v hk' hv hlr=>?_) (htr _ _ _ hw hR) EN.2
     . by_cases e:i=r
       . subst e
         rw[hk] at hc
         cases hc
         have:u=c:=AL
         subst this
         simp[EM]
       . rw[List.getElem?_set_ne e];exact Oq r c hc
     . by_cases e:i=r
       . subst e
         rw[hk] at hk'
         cases hk'
         simp only[List.getElem?_set_self EM,Option.some.injEq] at hv
         subst hv
         exact AL
       . rw[List.getElem?_set_ne e] at hv
         rw[getD_set_ne false e] at hlr
         exact k'.keeps hR (hp r k' v hk' hv hlr)
    unfold wpOp
    simp only[ho]
    rcases hst with⟨hwt,hup⟩ | ⟨hwt,hE,hup⟩
    . rw[if_pos (hwant.trans hwt)]
      refine .inl ?_
      unfold Oper.wp
      rw[heq]
      generalize (execOp (Zv (fun q=>decide (q<i)) (ops.toList.take m) vs 0 a).eval o).run P w=r at *
      cases r with
      | ok n w' =>
       cases n <;> simp only[Za] at hup <;> simp only[Oper.upon]
       case value u=>exact next u w' hup.1 hup.2
       case skip=>exact next undef w' hup.1 hup.2
       case enter fn args=>exact hup.mono fun e w'' ⟨u,he,h1,h2⟩=>by subst he;exact next u w'' h1 h2
      | halt x w'=>simp only[Za] at hup
    . rw[if_neg (by rw[hwant,hwt];simp)]
      exact next undef w hE hup
theorem YD {id:Nat} {l:List Oper} {a:Act} {W:World} (R G:World->World->Prop) (Φ:Nat->World->Prop) (m:Nat) (ws:List Nat) (ks:List (Want R)) (hm:P.follows .mixedOrders=true) (hrefl:∀ x,R x x) (htr:∀ x y z,R x y->R y z->R x z)
 (BO:∀ x y,G x y->R x y) (O5:∀ x y p,G x y->Φ p x->Φ p y) (hΦ:Φ 0 W.drew) (hlt:m<=l.length)
 (hsel:Region.noSelect l.toArray=true) (hB:Wv l.toArray m=true) (hback:We l.toArray m=true) (hfo:Yd l.toArray ws=true) (hwm:ws.all (·<m)=true)
 (Q8:Region.sinkB .any l.toArray m=true) (U6:Region.chainB .any l.toArray m=true) (hseq:Region.seqB .any l.toArray (l.drop m).length m (YL m (l.drop m).length)=true)
 (hall:Zo P R G Φ ws l.toArray W.drew (fun a' w'=>wpList P l.toArray Q (l.drop m) a' w') 0 (l.take m) ks [] a):(Code.region id l.toArray true).wp P Q a W:=by
 refine wp_region_any hm ?_
 have hz:∀ i,(Array.replicate l.toArray.size false).getD i false=false:=fun i=>getD_replicate_false _ _
 have hsz:l.toArray.size=m+(l.drop m).length:=by simp;omega
 have hlen:ks.length=m:=by
  rw[YX _ _ _ _ _ hall];simp;omega
 have h:=O0 (P:=P) (ops:=l.toArray) (Q:=Q) (m:=m) (g:=(l.drop m).length) (W:=W.drew) (ks:=ks) (a:=a) (K:=fun a' w'=>wpList P l.toArray Q (l.drop m) a' w') htr BO O5 hsz (.inr ⟨Q8,U6⟩) hsel hB hback hfo hwm (by simpa using hall) ?_ m (Array.replicate l.toArray.size false) (ks.map Want.Nw) W.drew ?_ ?_ (by simpa using hlen) (TR ks)
  (fun r k v _ _ h=>by rw[hz r] at h;cases h) (hrefl _) ?_
 . rw[XA _ _ _ _ (fun i _=>hz i),<- hsz] at h
   exact h
 . intro a' w' listed hk hs hL
   have e:listed=YL m (l.drop m).length:=by
    apply Array.ext
    . rw[hs,hsz];simp[YL]
    . intro i h1 h2
      have h3:=hL i (by omega)
      simp[h1] at h3
      simp[YL,h3]
   rw[e]
   exact wpAny_of_seq (l.drop m) m _ a' w' (fun j=>by simp[List.getElem?_drop]) hseq hk
 . unfold left
   rw[List.countP_eq_length.2 (fun i _=>by rw[hz i];rfl)]
   simp
 . refine⟨by simp,fun j oj _ h=>?_,fun t ht ht'=>by simp at ht';simp[ht']⟩
   rw[hz j] at h;cases h
 . have:doneN ws (Array.replicate l.toArray.size false)=0:=by
    unfold doneN
    rw[List.countP_eq_zero]
    intro c _
    rw[hz c];simp
   rw[this]
   exact hΦ
end
end
section
section
variable {w0 w w':World} {L:Loc} {bE t n k m σ nx:Nat} {s:Mm} {q:Q} {own:Bool}
end
theorem Md {t n k m κ:Nat} {z:Int} {own:Bool} {q:Q} {σ x:Nat} {F:List Nat} (h:q.F=x :: F) {N:Nat} {y':Y} {a i:Nat} (g:Goes k m κ (base t n k m) N q.y .see y' (.XO a i)) {G:Nat} (hG:ZE (q.sw x)=G) {H:Int} (hH:Zc x G=H) {N' st:Nat} (hN:N'=N+8) (hst:st=σ+N+7):Tz t n k m κ z own N' σ q (.take .idle) (q.made x F y' a i κ z own) (.over 0 H st):=by
 subst hG hH
 have r:=Qv (z:=z) (own:=own) (σ:=σ) h g
 rwa [show N+4+4=N' by omega,show σ+4+N+2+1=st by omega] at r
end
section
structure DV where
 nx:Int
 nu:Int
 own:Bool
 se:Int
 ch:Int
 sz:Int
 hl:List Value
 gl:List Value
 E:Int
 H:Int
 V:Int
 St:Int
structure ZL (w:World) (b o:Nat) (T:TypeId) (c:Array Value) (a:DV):Prop where
 obj:w.heap[b]?=some (.cells c T (0,0))
 Yr:a.hl.length=8
 WW:a.gl.length=3
 hl:∀ i v,a.hl[i]?=some v->c[o+6+i]?=some v
 gl:∀ i v,a.gl[i]?=some v->c[o+14+i]?=some v
 nx:c[o]?=some (iV a.nx)
 nu:c[o+1]?=some (.int .u64 a.nu)
 own:c[o+2]?=some (.bool a.own)
 se:c[o+3]?=some (.int .u64 a.se)
 ch:c[o+4]?=some (iV a.ch)
 sz:c[o+5]?=some (iV a.sz)
 E:c[o+17]?=some (iV a.E)
 H:c[o+18]?=some (.int .u64 a.H)
 V:c[o+19]?=some (iV a.V)
 St:c[o+20]?=some (iV a.St)
namespace ZL
variable {w w':World} {b o:Nat} {T:TypeId} {c c':Array Value} {a:DV}
theorem lt (h:ZL w b o T c a):b<w.heap.size:=XP h.obj
theorem fz (h:ZL w b o T c a) (i:Nat):w.frozen? ⟨b,i,none⟩=false:=YV h.obj i
theorem of_block (h:ZL w b o T c a) (e:w'.heap[b]?=w.heap[b]?):ZL w' b o T c a:={ h with obj:=e.trans h.obj }
theorem grown (h:ZL w b o T c a) (g:Below w.heap.size w w'):ZL w' b o T c a:=h.of_block (g.block _ h.lt)
theorem drew (h:ZL w b o T c a):ZL w.drew b o T c a:=h.of_block rfl
theorem only {S:Nat->Prop} (h:ZL w b o T c a) (g:Only S w w') (hs:¬ S b):ZL w' b o T c a:=h.of_block (g.block _ h.lt hs)
theorem hlAt (h:ZL w b o T c a):At w b (o+6) T c a.hl:=⟨h.obj,h.hl⟩
theorem xg (h:ZL w b o T c a):At w b (o+14) T c a.gl:=⟨h.obj,h.gl⟩
theorem Zr (h:ZL w b o T c a):w.cell? ⟨b,o,none⟩=some (iV a.nx):=ZW h.obj h.nx
theorem SQ (h:ZL w b o T c a):w.cell? ⟨b,o+1,none⟩=some (.int .u64 a.nu):=ZW h.obj h.nu
theorem QF (h:ZL w b o T c a):w.cell? ⟨b,o+2,none⟩=some (.bool a.own):=ZW h.obj h.own
theorem WQ (h:ZL w b o T c a):w.cell? ⟨b,o+3,none⟩=some (.int .u64 a.se):=ZW h.obj h.se
theorem zG (h:ZL w b o T c a):w.cell? ⟨b,o+4,none⟩=some (iV a.ch):=ZW h.obj h.ch
theorem WO (h:ZL w b o T c a):w.cell? ⟨b,o+5,none⟩=some (iV a.sz):=ZW h.obj h.sz
theorem D8 (h:ZL w b o T c a):w.cell? ⟨b,o+17,none⟩=some (iV a.E):=ZW h.obj h.E
theorem Eg (h:ZL w b o T c a):w.cell? ⟨b,o+18,none⟩=some (.int .u64 a.H):=ZW h.obj h.H
theorem D7 (h:ZL w b o T c a):w.cell? ⟨b,o+19,none⟩=some (iV a.V):=ZW h.obj h.V
theorem SN (h:ZL w b o T c a):w.cell? ⟨b,o+20,none⟩=some (iV a.St):=ZW h.obj h.St
theorem Be (h:ZL w b o T c a):∃ v,w.cell? ⟨b,o+6,none⟩=some v:=⟨_,ZW (o:=o+6+0) h.obj (h.hl 0 _ (List.getElem?_eq_getElem (by rw[h.Yr];decide)))⟩
theorem Bd (h:ZL w b o T c a):∃ v,w.cell? ⟨b,o+7,none⟩=some v:=⟨_,ZW (o:=o+6+1) h.obj (h.hl 1 _ (List.getElem?_eq_getElem (by rw[h.Yr];decide)))⟩
theorem Bc (h:ZL w b o T c a):∃ v,w.cell? ⟨b,o+8,none⟩=some v:=⟨_,ZW (o:=o+6+2) h.obj (h.hl 2 _ (List.getElem?_eq_getElem (by rw[h.Yr];decide)))⟩
theorem Ba (h:ZL w b o T c a):∃ v,w.cell? ⟨b,o+9,none⟩=some v:=⟨_,ZW (o:=o+6+3) h.obj (h.hl 3 _ (List.getElem?_eq_getElem (by rw[h.Yr];decide)))⟩
theorem A8 (h:ZL w b o T c a):∃ v,w.cell? ⟨b,o+10,none⟩=some v:=⟨_,ZW (o:=o+6+4) h.obj (h.hl 4 _ (List.getElem?_eq_getElem (by rw[h.Yr];decide)))⟩
theorem A7 (h:ZL w b o T c a):∃ v,w.cell? ⟨b,o+11,none⟩=some v:=⟨_,ZW (o:=o+6+5) h.obj (h.hl 5 _ (List.getElem?_eq_getElem (by rw[h.Yr];decide)))⟩
theorem AZ (h:ZL w b o T c a):∃ v,w.cell? ⟨b,o+12,none⟩=some v:=⟨_,ZW (o:=o+6+6) h.obj (h.hl 6 _ (List.getElem?_eq_getElem (by rw[h.Yr];decide)))⟩
theorem AY (h:ZL w b o T c a):∃ v,w.cell? ⟨b,o+13,none⟩=some v:=⟨_,ZW (o:=o+6+7) h.obj (h.hl 7 _ (List.getElem?_eq_getElem (by rw[h.Yr];decide)))⟩
theorem xe (h:ZL w b o T c a):∃ v,w.cell? ⟨b,o+14,none⟩=some v:=⟨_,ZW (o:=o+14+0) h.obj (h.gl 0 _ (List.getElem?_eq_getElem (by rw[h.WW];decide)))⟩
theorem wZ (h:ZL w b o T c a):∃ v,w.cell? ⟨b,o+15,none⟩=some v:=⟨_,ZW (o:=o+14+1) h.obj (h.gl 1 _ (List.getElem?_eq_getElem (by rw[h.WW];decide)))⟩
theorem wY (h:ZL w b o T c a):∃ v,w.cell? ⟨b,o+16,none⟩=some v:=⟨_,ZW (o:=o+14+2) h.obj (h.gl 2 _ (List.getElem?_eq_getElem (by rw[h.WW];decide)))⟩
theorem Zl (h:ZL w b o T c a) (x:Int):ZL (w.setCell ⟨b,o,none⟩ (iV x)) b o T (c.setIfInBounds (o) (iV x)) { a with nx:=x } :=
 ⟨ZV _ _ _ _ _ _ h.obj,h.Yr,h.WW,ZU h.hl _ (by have:=h.Yr;omega),ZU h.gl _ (by have:=h.WW;omega),Yl _ h.nx,Z9 h.nu (by omega),Z9 h.own (by omega),Z9 h.se (by omega),Z9 h.ch (by omega),Z9 h.sz (by omega),Z9 h.E (by omega),Z9 h.H (by omega),Z9 h.V (by omega),Z9 h.St (by omega)⟩
theorem MV (h:ZL w b o T c a) (x:Int):ZL (w.setCell ⟨b,o+3,none⟩ (.int .u64 x)) b o T (c.setIfInBounds (o+3) (.int .u64 x)) { a with se:=x } :=
 ⟨ZV _ _ _ _ _ _ h.obj,h.Yr,h.WW,ZU h.hl _ (by have:=h.Yr;omega),ZU h.gl _ (by have:=h.WW;omega),Z9 h.nx (by omega),Z9 h.nu (by omega),Z9 h.own (by omega),Yl _ h.se,Z9 h.ch (by omega),Z9 h.sz (by omega),Z9 h.E (by omega),Z9 h.H (by omega),Z9 h.V (by omega),Z9 h.St (by omega)⟩
theorem zF (h:ZL w b o T c a) (x:Int):ZL (w.setCell ⟨b,o+4,none⟩ (iV x)) b o T (c.setIfInBounds (o+4) (iV x)) { a with ch:=x } :=
 ⟨ZV _ _ _ _ _ _ h.obj,h.Yr,h.WW,ZU h.hl _ (by have:=h.Yr;omega),ZU h.gl _ (by have:=h.WW;omega),Z9 h.nx (by omega),Z9 h.nu (by omega),Z9 h.own (by omega),Z9 h.se (by omega),Yl _ h.ch,Z9 h.sz (by omega),Z9 h.E (by omega),Z9 h.H (by omega),Z9 h.V (by omega),Z9 h.St (by omega)⟩
theorem P5 (h:ZL w b o T c a) (x:Int):ZL (w.setCell ⟨b,o+5,none⟩ (iV x)) b o T (c.setIfInBounds (o+5) (iV x)) { a with sz:=x } :=
 ⟨ZV _ _ _ _ _ _ h.obj,h.Yr,h.WW,ZU h.hl _ (by have:=h.Yr;omega),ZU h.gl _ (by have:=h.WW;omega),Z9 h.nx (by omega),Z9 h.nu (by omega),Z9 h.own (by omega),Z9 h.se (by omega),Z9 h.ch (by omega),Yl _ h.sz,Z9 h.E (by omega),Z9 h.H (by omega),Z9 h.V (by omega),Z9 h.St (by omega)⟩
theorem OJ (h:ZL w b o T c a) (x:Int):ZL (w.setCell ⟨b,o+17,none⟩ (iV x)) b o T (c.setIfInBounds (o+17) (iV x)) { a with E:=x } :=
 ⟨ZV _ _ _ _ _ _ h.obj,h.Yr,h.WW,ZU h.hl _ (by have:=h.Yr;omega),ZU h.gl _ (by have:=h.WW;omega),Z9 h.nx (by omega),Z9 h.nu (by omega),Z9 h.own (by omega),Z9 h.se (by omega),Z9 h.ch (by omega),Z9 h.sz (by omega),Yl _ h.E,Z9 h.H (by omega),Z9 h.V (by omega),Z9 h.St (by omega)⟩
theorem QE (h:ZL w b o T c a) (x:Int):ZL (w.setCell ⟨b,o+18,none⟩ (.int .u64 x)) b o T (c.setIfInBounds (o+18) (.int .u64 x)) { a with H:=x } :=
 ⟨ZV _ _ _ _ _ _ h.obj,h.Yr,h.WW,ZU h.hl _ (by have:=h.Yr;omega),ZU h.gl _ (by have:=h.WW;omega),Z9 h.nx (by omega),Z9 h.nu (by omega),Z9 h.own (by omega),Z9 h.se (by omega),Z9 h.ch (by omega),Z9 h.sz (by omega),Z9 h.E (by omega),Yl _ h.H,Z9 h.V (by omega),Z9 h.St (by omega)⟩
theorem OI (h:ZL w b o T c a) (x:Int):ZL (w.setCell ⟨b,o+19,none⟩ (iV x)) b o T (c.setIfInBounds (o+19) (iV x)) { a with V:=x } :=
 ⟨ZV _ _ _ _ _ _ h.obj,h.Yr,h.WW,ZU h.hl _ (by have:=h.Yr;omega),ZU h.gl _ (by have:=h.WW;omega),Z9 h.nx (by omega),Z9 h.nu (by omega),Z9 h.own (by omega),Z9 h.se (by omega),Z9 h.ch (by omega),Z9 h.sz (by omega),Z9 h.E (by omega),Z9 h.H (by omega),Yl _ h.V,Z9 h.St (by omega)⟩
theorem Vs (h:ZL w b o T c a) (x:Int):ZL (w.setCell ⟨b,o+20,none⟩ (iV x)) b o T (c.setIfInBounds (o+20) (iV x)) { a with St:=x } :=
 ⟨ZV _ _ _ _ _ _ h.obj,h.Yr,h.WW,ZU h.hl _ (by have:=h.Yr;omega),ZU h.gl _ (by have:=h.WW;omega),Z9 h.nx (by omega),Z9 h.nu (by omega),Z9 h.own (by omega),Z9 h.se (by omega),Z9 h.ch (by omega),Z9 h.sz (by omega),Z9 h.E (by omega),Z9 h.H (by omega),Z9 h.V (by omega),Yl _ h.St⟩
theorem JV (h:ZL w b o T c a) (x:Value):ZL (w.setCell ⟨b,o+6,none⟩ x) b o T (c.setIfInBounds (o+6) x) { a with hl:=a.hl.set 0 x } :=
 ⟨ZV _ _ _ _ _ _ h.obj,(by rw[List.length_set];exact h.Yr),h.WW,YU h.hl 0 x,ZU h.gl _ (by have:=h.WW;omega),Z9 h.nx (by omega),Z9 h.nu (by omega),Z9 h.own (by omega),Z9 h.se (by omega),Z9 h.ch (by omega),Z9 h.sz (by omega),Z9 h.E (by omega),Z9 h.H (by omega),Z9 h.V (by omega),Z9 h.St (by omega)⟩
theorem JU (h:ZL w b o T c a) (x:Value):ZL (w.setCell ⟨b,o+7,none⟩ x) b o T (c.setIfInBounds (o+7) x) { a with hl:=a.hl.set 1 x } :=
 ⟨ZV _ _ _ _ _ _ h.obj,(by rw[List.length_set];exact h.Yr),h.WW,YU h.hl 1 x,ZU h.gl _ (by have:=h.WW;omega),Z9 h.nx (by omega),Z9 h.nu (by omega),Z9 h.own (by omega),Z9 h.se (by omega),Z9 h.ch (by omega),Z9 h.sz (by omega),Z9 h.E (by omega),Z9 h.H (by omega),Z9 h.V (by omega),Z9 h.St (by omega)⟩
theorem JS (h:ZL w b o T c a) (x:Value):ZL (w.setCell ⟨b,o+8,none⟩ x) b o T (c.setIfInBounds (o+8) x) { a with hl:=a.hl.set 2 x } :=
 ⟨ZV _ _ _ _ _ _ h.obj,(by rw[List.length_set];exact h.Yr),h.WW,YU h.hl 2 x,ZU h.gl _ (by have:=h.WW;omega),Z9 h.nx (by omega),Z9 h.nu (by omega),Z9 h.own (by omega),Z9 h.se (by omega),Z9 h.ch (by omega),Z9 h.sz (by omega),Z9 h.E (by omega),Z9 h.H (by omega),Z9 h.V (by omega),Z9 h.St (by omega)⟩
theorem JR (h:ZL w b o T c a) (x:Value):ZL (w.setCell ⟨b,o+9,none⟩ x) b o T (c.setIfInBounds (o+9) x) { a with hl:=a.hl.set 3 x } :=
 ⟨ZV _ _ _ _ _ _ h.obj,(by rw[List.length_set];exact h.Yr),h.WW,YU h.hl 3 x,ZU h.gl _ (by have:=h.WW;omega),Z9 h.nx (by omega),Z9 h.nu (by omega),Z9 h.own (by omega),Z9 h.se (by omega),Z9 h.ch (by omega),Z9 h.sz (by omega),Z9 h.E (by omega),Z9 h.H (by omega),Z9 h.V (by omega),Z9 h.St (by omega)⟩
theorem JQ (h:ZL w b o T c a) (x:Value):ZL (w.setCell ⟨b,o+10,none⟩ x) b o T (c.setIfInBounds (o+10) x) { a with hl:=a.hl.set 4 x } :=
 ⟨ZV _ _ _ _ _ _ h.obj,(by rw[List.length_set];exact h.Yr),h.WW,YU h.hl 4 x,ZU h.gl _ (by have:=h.WW;omega),Z9 h.nx (by omega),Z9 h.nu (by omega),Z9 h.own (by omega),Z9 h.se (by omega),Z9 h.ch (by omega),Z9 h.sz (by omega),Z9 h.E (by omega),Z9 h.H (by omega),Z9 h.V (by omega),Z9 h.St (by omega)⟩
theorem JP (h:ZL w b o T c a) (x:Value):ZL (w.setCell ⟨b,o+11,none⟩ x) b o T (c.setIfInBounds (o+11) x) { a with hl:=a.hl.set 5 x } :=
 ⟨ZV _ _ _ _ _ _ h.obj,(by rw[List.length_set];exact h.Yr),h.WW,YU h.hl 5 x,ZU h.gl _ (by have:=h.WW;omega),Z9 h.nx (by omega),Z9 h.nu (by omega),Z9 h.own (by omega),Z9 h.se (by omega),Z9 h.ch (by omega),Z9 h.sz (by omega),Z9 h.E (by omega),Z9 h.H (by omega),Z9 h.V (by omega),Z9 h.St (by omega)⟩
theorem JO (h:ZL w b o T c a) (x:Value):ZL (w.setCell ⟨b,o+12,none⟩ x) b o T (c.setIfInBounds (o+12) x) { a with hl:=a.hl.set 6 x } :=
 ⟨ZV _ _ _ _ _ _ h.obj,(by rw[List.length_set];exact h.Yr),h.WW,YU h.hl 6 x,ZU h.gl _ (by have:=h.WW;omega),Z9 h.nx (by omega),Z9 h.nu (by omega),Z9 h.own (by omega),Z9 h.se (by omega),Z9 h.ch (by omega),Z9 h.sz (by omega),Z9 h.E (by omega),Z9 h.H (by omega),Z9 h.V (by omega),Z9 h.St (by omega)⟩
theorem JM (h:ZL w b o T c a) (x:Value):ZL (w.setCell ⟨b,o+13,none⟩ x) b o T (c.setIfInBounds (o+13) x) { a with hl:=a.hl.set 7 x } :=
 ⟨ZV _ _ _ _ _ _ h.obj,(by rw[List.length_set];exact h.Yr),h.WW,YU h.hl 7 x,ZU h.gl _ (by have:=h.WW;omega),Z9 h.nx (by omega),Z9 h.nu (by omega),Z9 h.own (by omega),Z9 h.se (by omega),Z9 h.ch (by omega),Z9 h.sz (by omega),Z9 h.E (by omega),Z9 h.H (by omega),Z9 h.V (by omega),Z9 h.St (by omega)⟩
theorem CW (h:ZL w b o T c a) (x:Value):ZL (w.setCell ⟨b,o+14,none⟩ x) b o T (c.setIfInBounds (o+14) x) { a with gl:=a.gl.set 0 x } :=
 ⟨ZV _ _ _ _ _ _ h.obj,h.Yr,(by rw[List.length_set];exact h.WW),ZU h.hl _ (by have:=h.Yr;omega),YU h.gl 0 x,Z9 h.nx (by omega),Z9 h.nu (by omega),Z9 h.own (by omega),Z9 h.se (by omega),Z9 h.ch (by omega),Z9 h.sz (by omega),Z9 h.E (by omega),Z9 h.H (by omega),Z9 h.V (by omega),Z9 h.St (by omega)⟩
theorem CU (h:ZL w b o T c a) (x:Value):ZL (w.setCell ⟨b,o+15,none⟩ x) b o T (c.setIfInBounds (o+15) x) { a with gl:=a.gl.set 1 x } :=
 ⟨ZV _ _ _ _ _ _ h.obj,h.Yr,(by rw[List.length_set];exact h.WW),ZU h.hl _ (by have:=h.Yr;omega),YU h.gl 1 x,Z9 h.nx (by omega),Z9 h.nu (by omega),Z9 h.own (by omega),Z9 h.se (by omega),Z9 h.ch (by omega),Z9 h.sz (by omega),Z9 h.E (by omega),Z9 h.H (by omega),Z9 h.V (by omega),Z9 h.St (by omega)⟩
theorem CS (h:ZL w b o T c a) (x:Value):ZL (w.setCell ⟨b,o+16,none⟩ x) b o T (c.setIfInBounds (o+16) x) { a with gl:=a.gl.set 2 x } :=
 ⟨ZV _ _ _ _ _ _ h.obj,h.Yr,(by rw[List.length_set];exact h.WW),ZU h.hl _ (by have:=h.Yr;omega),YU h.gl 2 x,Z9 h.nx (by omega),Z9 h.nu (by omega),Z9 h.own (by omega),Z9 h.se (by omega),Z9 h.ch (by omega),Z9 h.sz (by omega),Z9 h.E (by omega),Z9 h.H (by omega),Z9 h.V (by omega),Z9 h.St (by omega)⟩
theorem SV (h:ZL w b o T c a) {l:List Value} (hA:At w' b (o+6) T c' l) (hl:l.length=8) (sm:Same (o+6) 8 c c'):ZL w' b o T c' { a with hl:=l } :=
 ⟨hA.obj,hl,h.WW,hA.is,fun i v hv=>(sm.2 _ (by have:=lt_of_some (l:=a.gl) hv;have:=h.WW;omega)).trans (h.gl i v hv),(sm.2 _ (by omega)).trans h.nx,(sm.2 _ (by omega)).trans h.nu,(sm.2 _ (by omega)).trans h.own,(sm.2 _ (by omega)).trans h.se,(sm.2 _ (by omega)).trans h.ch,(sm.2 _ (by omega)).trans h.sz,(sm.2 _ (by omega)).trans h.E,(sm.2 _ (by omega)).trans h.H,(sm.2 _ (by omega)).trans h.V,(sm.2 _ (by omega)).trans h.St⟩
theorem JL (h:ZL w b o T c a) {l:List Value} (hA:At w' b (o+14) T c' l) (hl:l.length=3) (sm:Same (o+14) 3 c c'):ZL w' b o T c' { a with gl:=l } :=
 ⟨hA.obj,h.Yr,hl,fun i v hv=>(sm.2 _ (by have:=lt_of_some (l:=a.hl) hv;have:=h.Yr;omega)).trans (h.hl i v hv),hA.is,(sm.2 _ (by omega)).trans h.nx,(sm.2 _ (by omega)).trans h.nu,(sm.2 _ (by omega)).trans h.own,(sm.2 _ (by omega)).trans h.se,(sm.2 _ (by omega)).trans h.ch,(sm.2 _ (by omega)).trans h.sz,(sm.2 _ (by omega)).trans h.E,(sm.2 _ (by omega)).trans h.H,(sm.2 _ (by omega)).trans h.V,(sm.2 _ (by omega)).trans h.St⟩
end ZL
theorem len8 {l:List Value} (h:l.length=8):∃ a b c d e f g i,l=[a,b,c,d,e,f,g,i]:=by
 match l,h with
 | [a,b,c,d,e,f,g,i],_=>exact⟨a,b,c,d,e,f,g,i,rfl⟩
def Wh (L:Loc) (b o:Nat) (T:TypeId) (cs:Array Value) (w w':World) (X:Mm->DV->Prop):Prop :=
 ∃ s' cs' a',Z8 w' L s'/\Only (L.and b) w w'/\ZL w' b o T cs' a'/\Same o 21 cs cs'/\X s' a'
def zD (L:Loc) (b o:Nat) (T:TypeId) (c c':Array Value) (s s':Mm) (a a':DV):Nat->World->Prop
 | 0,w=>Z8 w L s/\ZL w b o T c a
 | 1,w=>Z8 w L s'/\ZL w b o T c a
 | _,w=>Z8 w L s'/\ZL w b o T c' a'
theorem LU {L:Loc} {b o:Nat} {T:TypeId} {c c':Array Value} {s s':Mm} {a a':DV} (x y:World) (p:Nat) (g:Grown x y) (k:zD L b o T c c' s s' a a' p x):zD L b o T c c' s s' a a' p y:=by
 match p,k with
 | 0,k=>exact⟨k.1.below g,k.2.grown g⟩
 | 1,k=>exact⟨k.1.below g,k.2.grown g⟩
 | p+2,k=>exact⟨k.1.below g,k.2.grown g⟩
def uD (H:Int) (own:Bool):DV:=⟨0,H,own,0,0,0,Xl 0 0 0 0 0 false false false,U3 0 0 0,0,0,0,0⟩
def JY (H:Int) (own:Bool):Obj:=.cells #[iV 0,.int .u64 H,.bool own,.int .u64 0,iV 0,iV 0,iV 0,.int .u64 0,iV 0,iV 0,.int .u64 0,.bool false,.bool false,.bool false,iV 0,iV 0,.int .u64 0,iV 0,.int .u64 0,iV 0,iV 0] 161
theorem Om (H:Int) (own:Bool) (w:World) :
 Calls Tryz.prog 71 #[.int .u64 H,.bool own] w fun e w'=>e=.returned (pP w.heap.size 0)/\w'=w.alloc (JY H own):=by
 unfold JY
 go_enter Tryz.func71,Tryz.ntmps71
 go_wp2
 go_ret
 exact⟨rfl,rfl⟩
theorem Oy (H:Int) (own:Bool) (w:World):∃ cs,ZL (w.alloc (JY H own)) w.heap.size 0 161 cs (uD H own):=by
 refine⟨_,Go.Deep.blk_alloc_new _ _,rfl,rfl,fun i v hv=>?_,fun i v hv=>?_,rfl,rfl,rfl,rfl,rfl,rfl,rfl,rfl,rfl,rfl⟩
 . have hl:i<8:=lt_of_some hv
   match i,hl with
   | 0,_=>exact hv
   | 1,_=>exact hv
   | 2,_=>exact hv
   | 3,_=>exact hv
   | 4,_=>exact hv
   | 5,_=>exact hv
   | 6,_=>exact hv
   | 7,_=>exact hv
 . have hl:i<3:=lt_of_some hv
   match i,hl with
   | 0,_=>exact hv
   | 1,_=>exact hv
   | 2,_=>exact hv
theorem RX {w:World} {b o:Nat} {T:TypeId} {cs:Array Value} {a:DV} (hi:ZL w b o T cs a) (hnx:a.nx=7) :
 Calls Tryz.prog 178 #[pP b o] w fun e w'=>e=.returned (.agg #[iV a.E,.int .u64 a.H,iV a.V,iV a.St])/\Below w.heap.size w w':=by
 have i1:=hi.grown (ZZ _ (.cells #[iV 0,.int .u64 0,iV 0,iV 0] 53))
 have k0:=i1.Zr
 rw[hnx] at k0
 have k1:=i1.D8
 have k2:=i1.Eg
 have k3:=i1.D7
 have k4:=i1.SN
 go_enter Tryz.func178,Tryz.ntmps178
 go_wp2
 exact bodyPost_ret (v:=.agg #[iV a.E,.int .u64 a.H,iV a.V,iV a.St]) (by simp[results,Tryz.results178,go_sem]) rfl ⟨rfl,Z7 (Below.refl _ _) _⟩
end
section
set_option maxRecDepth 20000
theorem SX {w:World} {L:Loc} {s:Mm} {b o:Nat} {T:TypeId} {cs:Array Value} {t n k m:Nat} {g p r:Int} {a:DV} (h:Z8 w L s) (hb:¬ L.has b) (hi:ZL w b o T cs a) (who:Int) (hnx:a.nx<5) (σ:Nat) (hσ:s.steps=σ) :
 Calls Tryz.prog 182 #[pP b o,eV t n k m g p r L.p who] w fun e w'=>e=.returned (.tuple #[])/\Wh L b o T cs w w' (fun s' a'=>s'=s/\a'={ a with nx:=7,E:=3,H:=0,V:=0,St:=σ }):=by
 have HS:Hid (s.steps=σ):=hσ
 clear hσ
 have i0:=hi.grown (ZZ _ (.cells #[iV t,iV n,iV k,iV m,iV g,iV p,iV r,pP L.p 0,iV who] 27))
 have k0:=i0.Zr
 go_enter Tryz.func182,Tryz.ntmps182
 go_wp2_with (go_at_call 11;refine(Yk (h.alloc _) _ _ _ _ _ _ _ _ σ HS.out).mono ?_;rintro e w1 ⟨rfl,b1⟩;have i1:=i0.grown b1;have m1:=(h.alloc (.cells #[iV t,iV n,iV k,iV m,iV g,iV p,iV r,pP L.p 0,iV who] 27)).below b1;have k1:=i1.D8;have k2:=i1.Eg;have k3:=i1.D7;have k4:=i1.SN;have k5:=i1.Zr;have kf:=i1.fz)
 go_end0
 exact⟨rfl,s,_,_,((((m1.ZY hb _ _).ZY hb _ _).ZY hb _ _).ZY hb _ _).ZY hb _ _,(((((((Only.refl _ _).alloc _).trans (Only.Z5 b1)).set _ _).set _ _).set _ _).set _ _).set _ _,((((i1.OJ 3).QE 0).OI 0).Vs σ).Zl 7,((((Same.refl.set (by omega) _).set (by omega) _).set (by omega) _).set (by omega) _).set (by omega) _,rfl,rfl⟩
set_option maxHeartbeats 400000 in
theorem NW {w:World} {L:Loc} {s:Mm} {b o:Nat} {T:TypeId} {cs:Array Value} {t n k m:Nat} {g p r:Int} {a:DV} (h:Z8 w L s) (hb:¬ L.has b) (hi:ZL w b o T cs a) (who:Int) (hG:Good t n k m g p r) {x:Nat} {G:Int} (hx:x<n) (hn:(6+t+x * 2)<s.n) {v st:Int} {A:Nat} {Gs V:Int} (hv:s.wd (6+t+x * 2)=v) (hs:YJ v st A Gs V) {ci:Int} (hci:Zd t n k m A=ci) {lv:Bool} {a0:DV} (hl:(Y5 st && Gs == G)=lv) (hnx:a.nx<5) {σ:Nat} (hσ:wrap64 (s.steps+1)=σ) (H:(lv=false/\a0={ a with se:=v,ch:=ci,nx:=7,E:=3,H:=0,V:=0,St:=σ })\/(lv=true/\0<=ci/\a0={ a with se:=v,ch:=ci,nx:=1 })) :
 Calls Tryz.prog 183 #[pP b o,eV t n k m g p r L.p who,.agg #[iV x,iV G]] w fun e w'=>e=.returned (.tuple #[])/\Wh L b o T cs w w' (fun s' a'=>s'=((s.by who).step (6+t+x * 2) (s.wd (6+t+x * 2)))/\a'=a0):=by
 have HU:Hid (s.wd (6+t+x * 2)=v):=hv
 have sw:=hs.call
 have hs1:=hG.s1
 have ab:(A:Int)<=1048575:=by have:=hs.ad;omega
 have Gp:=fun w=>VO hG (A:Int) (by omega) w
 rw[hci] at Gp
 have dl:=fun w=>Um st A Gs V x G w
 rw[hl] at dl
 clear hv hs hci hl
 have HS:Hid ((((s.by who).step (6+t+x * 2) (s.wd (6+t+x * 2)))).steps=σ):=hσ
 clear hσ
 obtain⟨hbv,hbb⟩:=nb h hi.lt
 have YK:¬ L.has (w.heap.size+1):=fun hh=>by have:=h.lt _ hh;omega
 have YR:¬ w.heap.size+1=b:=fun hh=>by have:=hi.lt;omega
 go_enter Tryz.func183,Tryz.ntmps183
 go_wp2
 refine ZT (fun W=>Z8 W L s/\ZL W b o T cs a/\ZP W w.heap.size t n k m g p r L.p who/\At W (w.heap.size+1) 0 213 #[iV x,iV G] [iV x,iV G]/\Only (L.and b) w W) ⟨(h.alloc _).alloc _,(hi.grown (ZZ _ _)).grown (ZZ _ _),ZP.Xb _,At.Xo _ _ _ _,((Only.refl _ _).alloc _).alloc _⟩ ?_
 rintro W ⟨m1,i1,v1,x1,o1⟩
 apply QO (R:=ZO L b (o+3)) (zD L b o T cs (cs.setIfInBounds (o+3) (.int .u64 v)) s ((s.by who).step (6+t+x * 2) (s.wd (6+t+x * 2))) a { a with se:=v }) [7,10] MQ LU ⟨m1.drew,i1.drew⟩;. kernel_rfl
 apply pV;. intros;apply ol;go_simp;exact gl
 apply pV;. intro w' hR _;apply ol;have y:=(v1.dn hR.only hbv hbb).yy;go_simp;exact gl
 apply pV;. intros;apply ol;go_simp;exact gl
 apply pV;. intro w' hR _;apply ol;have y:=(v1.dn hR.only hbv hbb).yy;go_simp;exact gl
 apply pV;. intros;apply ol;go_simp;exact gl
 apply pV;. intro w' hR _;apply ol;have z:=(x1.drew.only hR.only (fun hh=>hh.elim YK YR)).at0 0 rfl;go_simp;exact gl
 try simp only[pu,s0,s1]
 apply pV (c:=iV (((6+t+x * 2):Nat):Int));. intro w' hR _;apply ol;go_simp;refine(Y4 _ _ _ _ _ _ _ (x:Int) _ hG.arena (by omega) (by omega)).mono ?_;rintro e w'' ⟨rfl,b9⟩;exact⟨_,rfl,b9,congrArg (Value.int .i64) (by omega)⟩
 apply pV (c:=.int .u64 v);. intro w' hR _ hP;apply ol;go_simp;refine(Zj (s:=s) hP.1 _ _ _ _ _ _ _ _ (6+t+x * 2) hn).mono ?_;rintro e w'' ⟨rfl,m2,o2⟩;exact⟨_,rfl,⟨ZO.Yq o2 hb,m2,hP.2.only o2 hb⟩,by simp[Want.pred,HU.out]⟩
 iterate 2 (apply pV;. intros;apply ol;go_simp;exact gl)
 apply OE;. intro w' hR _ hP;apply ol;have z0:=hP.2.WQ;have z1:=hP.2.fz;go_simp;exact⟨⟨ZO.set _ _,hP.1.ZY hb _ _,hP.2.MV _⟩,trivial⟩
 try simp only[pu,s0,s1]
 try simp only[pn]
 intro vv w2 hR hP _
 obtain⟨m2,i2⟩:Z8 w2 L ((s.by who).step (6+t+x * 2) (s.wd (6+t+x * 2)))/\ZL w2 b o T (cs.setIfInBounds (o+3) (.int .u64 v)) { a with se:=v }:=hP
 have o2:Only (L.and b) w w2:=o1.drew.trans hR.only
 have x2:=x1.drew.only hR.only (fun hh=>hh.elim YK YR)
 have v2:=v1.dn hR.only hbv hbb
 have s2:Same o 21 cs (cs.setIfInBounds (o+3) (.int .u64 v)):=Same.refl.set (by omega) _
 have k3:w2.cell? ⟨b,o+3,none⟩=some (.int .u64 v):=i2.WQ
 clear hR o1 v1 m1 i1 x1
 go_wp2_with (first
  | (go_at_call 145;refine(sw _).mono ?_;rintro e w3 ⟨rfl,b3⟩;have i4:=(i2.grown b3).grown (ZZ _ (.cells #[iV st,iV A,iV Gs,iV V] 108));have x4:=(x2.grown b3).grown (ZZ _ (.cells #[iV st,iV A,iV Gs,iV V] 108));have v4:=(v2.grown b3).grown (ZZ _ (.cells #[iV st,iV A,iV Gs,iV V] 108));have m4:=(m2.below b3).alloc (.cells #[iV st,iV A,iV Gs,iV V] 108);have o4:=(o2.trans (Only.Z5 b3)).alloc (.cells #[iV st,iV A,iV Gs,iV V] 108);have q4:=At.new w3 108 [iV st,iV A,iV Gs,iV V];obtain⟨y0,y1,y2,y3,y4,y5,y6,y7,y8⟩:=id v4;have q0:=q4.at0 0 rfl)
  | (go_at_call 189;refine(Gp _).mono ?_;rintro e w5 ⟨rfl,b5⟩;have i5:=i4.grown b5;have x5:=x4.grown b5;have v5:=v4.grown b5;have m5:=m4.below b5;have q5:=q4.grown b5;have k4:=i5.zG;have kf:=i5.fz;have i6:=i5.zF ci;have hw3:w.heap.size+1<w3.heap.size:=(by have:=x2.lt;have:=b3.size;omega);have hb3:b<w3.heap.size:=(by have:=i2.lt;have:=b3.size;omega);have x6:=x5.other (k:=b) (by omega) (o+4) (iV ci);have v6:=v5.ZY (b:=b) hbb (o+4) (iV ci);have q6:=q5.other (k:=b) (by omega) (o+4) (iV ci);have m6:=m5.ZY hb (o+4) (iV ci);have z0:=q6.at0 0 rfl;have z1:=q6.at0 1 rfl;have z2:=q6.at0 2 rfl;have z3:=q6.at0 3 rfl;have u0:=x6.at0 0 rfl;have u1:=x6.at0 1 rfl;obtain⟨r0,r1,r2,r3,r4,r5,r6,r7,r8⟩:=id v6))
 go_at_call 190
 refine(dl _).mono ?_
 rintro e w7 ⟨rfl,b7⟩
 have i7:=i6.grown b7
 have m7:=m6.below b7
 have v7:=v6.grown b7
 have o7:=((o4.trans (Only.Z5 b5)).set (o+4) (iV ci)).trans (Only.Z5 b7)
 have l4:w7.cell? ⟨b,o+4,none⟩=some (iV ci):=i7.zG
 have l0:=i7.Zr
 have lf:=i7.fz
 obtain⟨e0,e1,e2,e3,e4,e5,e6,e7,e8⟩:=id v7
 rcases H with⟨rfl,rfl⟩ | ⟨rfl,hc0,rfl⟩
 . go_wp2_with (go_at_call 182;refine(SX m7 hb i7 who hnx σ HS.out).mono ?_;rintro e w8 ⟨rfl,s8,yD,a8,m8,o8,i8,q8,rfl,rfl⟩)
   refine bodyPost_ret (results_none rfl _ _ _) rfl ?_
   exact⟨rfl,_,_,_,m8,o7.trans o8,i8,(s2.set (by omega) _).trans q8,rfl,rfl⟩
 . go_wp2
   go_end0
   exact⟨rfl,_,_,_,m7.ZY hb _ _,o7.set _ _,i7.Zl 1,(s2.set (by omega) _).set (by omega) _,rfl,rfl⟩
end
section
set_option maxHeartbeats 1000000
set_option maxRecDepth 20000
structure Ul (u kd Z sl gn:Int) (ow:Bool):Prop where
 u0:0<=u
 u1:u<=18446744073709551615
 kd:u % 4=kd
 sz:u / 4 % 65536=Z
 sl:u / 262144 % 65536=sl
 gn:u / 17179869184 % 65536=gn
 ow:decide (u / 1125899906842624 % 2=1)=ow
theorem Ul.call {u kd Z sl gn:Int} {ow:Bool} (h:Ul u kd Z sl gn ow) (w:World) :
 Calls Tryz.prog 191 #[.int .u64 u] w fun e w'=>e=.returned (.agg #[iV kd,iV Z,iV sl,iV gn,.bool ow])/\Below w.heap.size w w':=by
 have e:=FO u w h.u0 h.u1
 rwa [h.kd,h.sz,h.sl,h.gn,h.ow] at e
theorem NY {w:World} {L:Loc} {s:Mm} {b o:Nat} {T:TypeId} {cs:Array Value} {t n k m:Nat} {g p r:Int} {a:DV} (h:Z8 w L s) (hb:¬ L.has b) (hi:ZL w b o T cs a) (who:Int) {x:Nat} {G:Int} {st:Int} {A:Nat} {Gs V:Int} (hs:YJ a.se st A Gs V) (hn:A<s.n) {u kd Z sl gn:Int} {ow:Bool} (hu:s.wd A=u) (hh:Ul u kd Z sl gn ow) (hnx:a.nx<5) {oo:Bool} {a0:DV} (ho:(ow == a.own)=oo) {σ:Nat} (hσ:wrap64 (s.steps+1)=σ) (H:(oo=false/\a0={ a with nx:=7,E:=3,H:=0,V:=0,St:=σ })\/(oo=true/\st≠4/\a0={ a with sz:=Z,nx:=2 })) :
 Calls Tryz.prog 184 #[pP b o,eV t n k m g p r L.p who,.agg #[iV x,iV G]] w fun e w'=>e=.returned (.tuple #[])/\Wh L b o T cs w w' (fun s' a'=>s'=((s.by who).step A (s.wd A))/\a'=a0):=by
 have HU:Hid (s.wd A=u):=hu
 have sw:=hs.call
 have hw:=hh.call
 clear hu hs hh
 have HS:Hid ((((s.by who).step A (s.wd A))).steps=σ):=hσ
 have HO:Hid ((ow == a.own)=oo):=ho
 clear hσ ho
 obtain⟨hbv,hbb⟩:=nb h hi.lt
 have YK:¬ L.has (w.heap.size+1):=fun hh=>by have:=h.lt _ hh;omega
 have YR:¬ w.heap.size+1=b:=fun hh=>by have:=hi.lt;omega
 have i0:=(hi.grown (ZZ _ (.cells #[iV t,iV n,iV k,iV m,iV g,iV p,iV r,pP L.p 0,iV who] 27))).grown (ZZ _ (.cells #[iV x,iV G] 213))
 have k3:=i0.WQ
 go_enter Tryz.func184,Tryz.ntmps184
 go_wp2_with (first
  | (go_at_call 145;refine(sw _).mono ?_;rintro e w3 ⟨rfl,b3⟩;have i3:=(i0.grown b3).grown (ZZ _ (.cells #[iV st,iV A,iV Gs,iV V] 108));have x3:=((At.Xo _ _ _ [iV (x:Nat),iV G]).grown b3).grown (ZZ _ (.cells #[iV st,iV A,iV Gs,iV V] 108));have v3:=((ZP.Xb _).grown b3).grown (ZZ _ (.cells #[iV st,iV A,iV Gs,iV V] 108));have m3:=(((h.alloc _).alloc _).below b3).alloc (.cells #[iV st,iV A,iV Gs,iV V] 108);have o3:Only (L.and b) w (w3.alloc (.cells #[iV st,iV A,iV Gs,iV V] 108)):=((((Only.refl _ _).alloc _).alloc _).trans (Only.Z5 b3)).alloc (.cells #[iV st,iV A,iV Gs,iV V] 108);have q3:=At.new w3 108 [iV st,iV A,iV Gs,iV V];obtain⟨e0,e1,e2,e3,e4,e5,e6,e7,e8⟩:=id v3;have q0:=q3.at0 1 rfl)
  | (go_at_call 126;refine(Zj m3 _ _ _ _ _ _ _ _ A hn).mono ?_;rintro e w5 ⟨rfl,m5,o5⟩;rw[HU.out])
  | (go_at_call 191;refine(hw _).mono ?_;rintro e w6 ⟨rfl,b6⟩))
 obtain⟨S,hS⟩:∃ S,w3.heap.size=S:=⟨_,rfl⟩
 have y0:=At.new w6 147 [iV kd,iV Z,iV sl,iV gn,.bool ow]
 obtain⟨Hh,hH⟩:∃ Hh,w6.heap.size=Hh:=⟨_,rfl⟩
 have lS:¬ L.has S:=fun hh=>by have:=h.lt _ hh;have:=b3.size;simp only[Go.Deep.nblk_alloc] at this;omega
 have bS:b≠S:=by have:=hi.lt;have:=b3.size;simp only[Go.Deep.nblk_alloc] at this;omega
 have bH:b≠Hh:=by have:=hi.lt;have:=b3.size;have:=o5.size;have:=b6.size;simp only[Go.Deep.nblk_alloc] at *;omega
 rw[hS] at q3 ⊢
 rw[hH] at y0 ⊢
 refine ZT (fun W=>Z8 W L ((s.by who).step A (s.wd A))/\ZL W b o T cs a/\ZP W w.heap.size t n k m g p r L.p who/\At W (w.heap.size+1) 0 213 #[iV x,iV G] [iV x,iV G]/\At W S 0 108 _ [iV st,iV A,iV Gs,iV V]/\At W Hh 0 147 _ [iV kd,iV Z,iV sl,iV gn,.bool ow]/\Only (L.and b) w W) ⟨(m5.below b6).alloc _,((i3.only o5 hb).grown b6).grown (ZZ _ _),((v3.only o5 hbv).grown b6).grown (ZZ _ _),((x3.only o5 YK).grown b6).grown (ZZ _ _),((q3.only o5 lS).grown b6).grown (ZZ _ _),y0,((o3.trans (o5.XH (b:=b))).trans (Only.Z5 b6)).alloc _⟩ ?_
 clear b3 b6 m3 m5 o5 o3 q3 q0 y0 i3 v3 x3 i0 k3 hS hH sw hw
 rintro W ⟨m1,i1,v1,x1,q1,y1,o1⟩
 apply yE;. kernel_rfl
 apply rV;. intros;apply ol;go_simp;exact gl
 apply rV;. intro w' hg _;apply ol;have z:=(y1.drew.grown hg).at0 4 rfl;go_simp;exact gl
 iterate 3 (apply rV;. intros;apply ol;go_simp;exact gl)
 apply rV;. intro w' hg _;apply ol;have z:=(i1.drew.grown hg).QF;go_simp;exact gl
 try simp only[pu,s0,s1]
 apply XW (c:=.bool !oo);. intro w' hg _;apply ol;go_simp;exact⟨Grown.refl _,congrArg Value.bool (by rw[HO.out] <;> rfl)⟩
 try simp only[pu,s0,s1]
 intro w7 hg _
 have m7:=m1.drew.below hg
 have i7:=i1.drew.grown hg
 have v7:=v1.dg hg
 have x7:=x1.drew.grown hg
 have q7:=q1.drew.grown hg
 have yh:=y1.drew.grown hg
 have o7:Only (L.and b) w w7:=o1.drew.trans (Only.Z5 hg)
 clear hg m1 i1 v1 x1 q1 y1 o1
 have kz:=yh.at0 1 rfl
 have k5:=i7.WO
 have k0:=i7.Zr
 have kf:=i7.fz
 obtain⟨y0,y1,y2,y3,y4,y5,y6,y7,y8⟩:=id v7
 rcases H with⟨rfl,rfl⟩ | ⟨rfl,h4,rfl⟩
 . go_wp2_with (go_at_call 182;refine(SX m7 hb i7 who hnx σ HS.out).mono ?_;rintro e w8 ⟨rfl,s8,yD,a8,m8,o8,i8,q8,rfl,rfl⟩)
   refine bodyPost_ret (results_none rfl _ _ _) rfl ?_
   exact⟨rfl,_,_,_,m8,o7.trans o8,i8,q8,rfl,rfl⟩
 . have q8:=(q7.other bS.symm (o+5) (iV Z)).other bS.symm o (iV 2)
   have z0:=q8.at0 0 rfl
   go_wp2
   go_end0
   exact⟨rfl,_,_,_,(m7.ZY hb _ _).ZY hb _ _,(o7.set _ _).set _ _,(i7.P5 Z).Zl 2,(Same.refl.set (by omega) _).set (by omega) _,rfl,rfl⟩
theorem IP {w:World} {L:Loc} {s:Mm} {b o:Nat} {T:TypeId} {cs:Array Value} {t n k m:Nat} {g p r:Int} {a:DV} (h:Z8 w L s) (hb:¬ L.has b) (hi:ZL w b o T cs a) (who:Int) {x:Nat} {G:Int} {st:Int} {A:Nat} {Gs V:Int} (hs:YJ a.se st A Gs V) (hn:A<s.n) {u kd Z sl gn:Int} {ow:Bool} (hu:s.wd A=u) (hh:Ul u kd Z sl gn ow) (ho:(ow == a.own)=true) (h4:st=4) :
 Calls Tryz.prog 184 #[pP b o,eV t n k m g p r L.p who,.agg #[iV x,iV G]] w fun e w'=>e=.returned (.tuple #[])/\Wh L b o T cs w w' (fun s' a'=>s'=((s.by who).step A (s.wd A))/\a'={ a with sz:=Z,hl:=Xl x a.se Z 0 0 false false false,nx:=3 }):=by
 have HU:Hid (s.wd A=u):=hu
 have sw:=hs.call
 have hw:=hh.call
 clear hu hs hh
 have HO:Hid ((ow == a.own)=true):=ho
 subst h4
 clear ho
 obtain⟨hbv,hbb⟩:=nb h hi.lt
 have YK:¬ L.has (w.heap.size+1):=fun hh=>by have:=h.lt _ hh;omega
 have YR:¬ w.heap.size+1=b:=fun hh=>by have:=hi.lt;omega
 have i0:=(hi.grown (ZZ _ (.cells #[iV t,iV n,iV k,iV m,iV g,iV p,iV r,pP L.p 0,iV who] 27))).grown (ZZ _ (.cells #[iV x,iV G] 213))
 have k3:=i0.WQ
 go_enter Tryz.func184,Tryz.ntmps184
 go_wp2_with (first
  | (go_at_call 145;refine(sw _).mono ?_;rintro e w3 ⟨rfl,b3⟩;have i3:=(i0.grown b3).grown (ZZ _ (.cells #[iV 4,iV A,iV Gs,iV V] 108));have x3:=((At.Xo _ _ _ [iV (x:Nat),iV G]).grown b3).grown (ZZ _ (.cells #[iV 4,iV A,iV Gs,iV V] 108));have v3:=((ZP.Xb _).grown b3).grown (ZZ _ (.cells #[iV 4,iV A,iV Gs,iV V] 108));have m3:=(((h.alloc _).alloc _).below b3).alloc (.cells #[iV 4,iV A,iV Gs,iV V] 108);have o3:Only (L.and b) w (w3.alloc (.cells #[iV 4,iV A,iV Gs,iV V] 108)):=((((Only.refl _ _).alloc _).alloc _).trans (Only.Z5 b3)).alloc (.cells #[iV 4,iV A,iV Gs,iV V] 108);have q3:=At.new w3 108 [iV 4,iV A,iV Gs,iV V];obtain⟨e0,e1,e2,e3,e4,e5,e6,e7,e8⟩:=id v3;have q0:=q3.at0 1 rfl)
  | (go_at_call 126;refine(Zj m3 _ _ _ _ _ _ _ _ A hn).mono ?_;rintro e w5 ⟨rfl,m5,o5⟩;rw[HU.out])
  | (go_at_call 191;refine(hw _).mono ?_;rintro e w6 ⟨rfl,b6⟩))
 obtain⟨S,hS⟩:∃ S,w3.heap.size=S:=⟨_,rfl⟩
 have y0:=At.new w6 147 [iV kd,iV Z,iV sl,iV gn,.bool ow]
 obtain⟨Hh,hH⟩:∃ Hh,w6.heap.size=Hh:=⟨_,rfl⟩
 have lS:¬ L.has S:=fun hh=>by have:=h.lt _ hh;have:=b3.size;simp only[Go.Deep.nblk_alloc] at this;omega
 have bS:b≠S:=by have:=hi.lt;have:=b3.size;simp only[Go.Deep.nblk_alloc] at this;omega
 have bH:b≠Hh:=by have:=hi.lt;have:=b3.size;have:=o5.size;have:=b6.size;simp only[Go.Deep.nblk_alloc] at *;omega
 rw[hS] at q3 ⊢
 rw[hH] at y0 ⊢
 refine ZT (fun W=>Z8 W L ((s.by who).step A (s.wd A))/\ZL W b o T cs a/\ZP W w.heap.size t n k m g p r L.p who/\At W (w.heap.size+1) 0 213 #[iV x,iV G] [iV x,iV G]/\At W S 0 108 _ [iV 4,iV A,iV Gs,iV V]/\At W Hh 0 147 _ [iV kd,iV Z,iV sl,iV gn,.bool ow]/\Only (L.and b) w W) ⟨(m5.below b6).alloc _,((i3.only o5 hb).grown b6).grown (ZZ _ _),((v3.only o5 hbv).grown b6).grown (ZZ _ _),((x3.only o5 YK).grown b6).grown (ZZ _ _),((q3.only o5 lS).grown b6).grown (ZZ _ _),y0,((o3.trans (o5.XH (b:=b))).trans (Only.Z5 b6)).alloc _⟩ ?_
 clear b3 b6 m3 m5 o5 o3 q3 q0 y0 i3 v3 x3 i0 k3 hS hH sw hw
 rintro W ⟨m1,i1,v1,x1,q1,y1,o1⟩
 apply yE;. kernel_rfl
 apply rV;. intros;apply ol;go_simp;exact gl
 apply rV;. intro w' hg _;apply ol;have z:=(y1.drew.grown hg).at0 4 rfl;go_simp;exact gl
 iterate 3 (apply rV;. intros;apply ol;go_simp;exact gl)
 apply rV;. intro w' hg _;apply ol;have z:=(i1.drew.grown hg).QF;go_simp;exact gl
 try simp only[pu,s0,s1]
 apply XW (c:=.bool false);. intro w' hg _;apply ol;go_simp;exact⟨Grown.refl _,congrArg Value.bool (by rw[HO.out];rfl)⟩
 try simp only[pu,s0,s1]
 intro w7 hg _
 have m7:=m1.drew.below hg
 have i7:=i1.drew.grown hg
 have v7:=v1.dg hg
 have x7:=x1.drew.grown hg
 have q7:=q1.drew.grown hg
 have yh:=y1.drew.grown hg
 have o7:Only (L.and b) w w7:=o1.drew.trans (Only.Z5 hg)
 clear hg m1 i1 v1 x1 q1 y1 o1
 have kz:=yh.at0 1 rfl
 have k5:=i7.WO
 have k0:=i7.Zr
 have kf:=i7.fz
 obtain⟨y0,y1,y2,y3,y4,y5,y6,y7,y8⟩:=id v7
 have q8:=(q7.other bS.symm (o+5) (iV Z)).other bS.symm o (iV 2)
 have z0:=q8.at0 0 rfl
 go_wp2
 refine ZT (fun W=>Z8 W L ((s.by who).step A (s.wd A))/\ZL W b o T ((cs.setIfInBounds (o+5) (iV Z)).setIfInBounds o (iV 2)) { a with sz:=Z,nx:=2 }/\At W (w.heap.size+1) 0 213 #[iV x,iV G] [iV x,iV G]/\Only (L.and b) w W) ⟨(m7.ZY hb _ _).ZY hb _ _,(i7.P5 Z).Zl 2,(x7.other YR _ _).other YR _ _,(o7.set _ _).set _ _⟩ ?_
 clear m7 i7 v7 x7 q7 yh o7 kz k5 k0 kf q8 z0 y0 y1 y2 y3 y4 y5 y6 y7 y8
 rintro W ⟨m1,i1,x1,o1⟩
 refine ZK Grown 16 [.val (pP b o),.val (.pointer (some ⟨w.heap.size+1,0,none⟩)),.val (iV (x:Nat)),.val (pP b o),.val (pP b o),.val (pP b (o+3)),.val (.int .u64 a.se),.val (pP b o),.val (pP b o),.val (pP b (o+5)),.val (iV Z),.that (fun w' v=>∃ X,v=(pP X 0)/\At w' X 0 159 (Xl x a.se Z 0 0 false false false).toArray (Xl x a.se Z 0 0 false false false)) (fun _ _ _ hg h=>h.imp fun X k=>⟨k.1,k.2.grown hg⟩),.that (fun w' v=>∃ X,v=(pP X 0)/\At w' X 0 159 (Xl x a.se Z 0 0 false false false).toArray (Xl x a.se Z 0 0 false false false)) (fun _ _ _ hg h=>h.imp fun X k=>⟨k.1,k.2.grown hg⟩),.val (.agg #[iV x,.int .u64 a.se,iV Z,iV 0,.int .u64 0,.bool false,.bool false,.bool false]),.val (pP b o),.val (pP b (o+6))] (by kernel_rfl) Grown.refl Grown.trans (by decide) (by kernel_rfl) (by kernel_rfl) (by kernel_rfl) (by kernel_rfl) (by kernel_rfl) (by kernel_rfl) ?_
 simp only[List.take_succ_cons,List.take_zero,ZH,Act.put,List.setIfInBounds_toArray,List.set_cons_zero,List.set_cons_succ]
 refine⟨?_,?_,?_,?_,?_,?_,?_,?_,?_,?_,?_,?_,fun v1=>⟨?_,fun v2=>⟨?_,?_,?_,?_⟩⟩⟩
 . intros;apply ol;go_simp;exact gl
 . intros;apply ol;go_simp;exact gl
 . intro w' hg _;apply ol;have z:=(x1.drew.grown hg).at0 0 rfl;go_simp;exact gl
 . intros;apply ol;go_simp;exact gl
 . intros;apply ol;go_simp;exact gl
 . intros;apply ol;go_simp;exact gl
 . intro w' hg _;apply ol;have z:=(i1.drew.grown hg).WQ;go_simp;exact gl
 . intros;apply ol;go_simp;exact gl
 . intros;apply ol;go_simp;exact gl
 . intros;apply ol;go_simp;exact gl
 . intro w' hg _;apply ol;have z:=(i1.drew.grown hg).WO;go_simp;exact gl
 . intro w' hg _;apply ol;have q:=At.new w' 159 (Xl x a.se Z 0 0 false false false);go_simp;refine(TJ x a.se Z _).mono ?_;rintro e w'' ⟨rfl,rfl⟩;exact⟨_,rfl,ZZ _ _,_,rfl,q⟩
 . intro w' hg hf
   apply ol
   obtain⟨X,rfl,q⟩:=hf.1 (by kernel_rfl)
   go_simp
   exact⟨Grown.refl _,X,rfl,q⟩
 . intro w' hg hf
   apply ol
   obtain⟨X,rfl,q⟩:=hf.1 (by kernel_rfl)
   have z0:=q.at0 0 rfl
   have z1:=q.at0 1 rfl
   have z2:=q.at0 2 rfl
   have z3:=q.at0 3 rfl
   have z4:=q.at0 4 rfl
   have z5:=q.at0 5 rfl
   have z6:=q.at0 6 rfl
   have z7:=q.at0 7 rfl
   go_simp
   exact gl
 . intros;apply ol;go_simp;exact gl
 . intros;apply ol;go_simp;exact gl
 intro w9 hg _
 have m10:=m1.drew.below hg
 have i10:=i1.drew.grown hg
 have uo:Only (L.and b) w w9:=o1.drew.trans (Only.Z5 hg)
 clear hg m1 i1 x1 o1
 obtain⟨l0,p0⟩:=i10.Be
 obtain⟨l1,p1⟩:=i10.Bd
 obtain⟨l2,p2⟩:=i10.Bc
 obtain⟨l3,p3⟩:=i10.Ba
 obtain⟨l4,p4⟩:=i10.A8
 obtain⟨l5,p5⟩:=i10.A7
 obtain⟨l6,p6⟩:=i10.AZ
 obtain⟨l7,p7⟩:=i10.AY
 have kf:=i10.fz
 have k0:=i10.Zr
 go_wp2
 go_end0
 obtain⟨y0,y1,y2,y3,y4,y5,y6,y7,hl⟩:=len8 hi.Yr
 exact⟨rfl,_,_,_,(((((((((m10.ZY hb _ _).ZY hb _ _).ZY hb _ _).ZY hb _ _).ZY hb _ _).ZY hb _ _).ZY hb _ _).ZY hb _ _).ZY hb _ _),(((((((((uo.set _ _).set _ _).set _ _).set _ _).set _ _).set _ _).set _ _).set _ _).set _ _),((((((((i10.JV _).JU _).JS _).JR _).JQ _).JP _).JO _).JM _).Zl 3,(((((((((((Same.refl.set (by omega) _).set (by omega) _).set (by omega) _).set (by omega) _).set (by omega) _).set (by omega) _).set (by omega) _).set (by omega) _).set (by omega) _).set (by omega) _).set (by omega) _),rfl,by simp[hl,Xl]⟩
end
section
set_option maxHeartbeats 1000000
set_option maxRecDepth 20000
theorem FK {w:World} {L:Loc} {s:Mm} {b o:Nat} {T:TypeId} {cs:Array Value} {t n k m:Nat} {g p r:Int} {a:DV} (h:Z8 w L s) (hb:¬ L.has b) (hi:ZL w b o T cs a) (who:Int) (hG:Good t n k m g p r) {x:Nat} {G:Int} (hx:x<n) (hn:(6+t+x * 2)<s.n) {st:Int} {A:Nat} {Gs V:Int} (hs:YJ a.se st A Gs V) (hd:decide (s.wd (6+t+x * 2)=a.se)=false) :
 Calls Tryz.prog 185 #[pP b o,eV t n k m g p r L.p who,.agg #[iV x,iV G]] w fun e w'=>e=.returned (.tuple #[])/\Wh L b o T cs w w' (fun s' a'=>s'=((s.by who).Wq (6+t+x * 2) a.se (Zq 4 A Gs (V+1)))/\a'={ a with nx:=0 }):=by
 have HD:Hid (decide (s.wd (6+t+x * 2)=a.se)=false):=hd
 have sw:=hs.call
 have hs1:=hG.s1
 have ab:(A:Int)<=1048575:=by have:=hs.ad;omega
 have gb:0<=Gs/\Gs<=65535:=by have:=hs.gn;omega
 have vb:0<=V/\V<=4194303:=by have:=hs.vr;omega
 have ps:=fun w=>Yo 4 A Gs (V+1) w ⟨by omega,by omega⟩ ⟨by omega,by omega⟩ ⟨by omega,by omega⟩ ⟨by omega,by omega⟩
 have hvw:IntKind.i64.wrap (V+1)=V+1:=by rw[IntKind.wrap_i64];omega
 clear hd hs
 obtain⟨hbv,hbb⟩:=nb h hi.lt
 have YK:¬ L.has (w.heap.size+1):=fun hh=>by have:=h.lt _ hh;omega
 have YR:¬ w.heap.size+1=b:=fun hh=>by have:=hi.lt;omega
 have i0:=(hi.grown (ZZ _ (.cells #[iV t,iV n,iV k,iV m,iV g,iV p,iV r,pP L.p 0,iV who] 27))).grown (ZZ _ (.cells #[iV x,iV G] 213))
 have k3:=i0.WQ
 go_enter Tryz.func185,Tryz.ntmps185
 go_wp2_with (first
  | (go_at_call 145;refine(sw _).mono ?_;rintro e w3 ⟨rfl,b3⟩)
  | (go_at_call 52;refine(ps _).mono ?_;rintro e w5 ⟨rfl,b5⟩))
 refine ZT (fun W=>Z8 W L s/\ZL W b o T cs a/\ZP W w.heap.size t n k m g p r L.p who/\At W (w.heap.size+1) 0 213 #[iV x,iV G] [iV x,iV G]/\Only (L.and b) w W) ⟨((((h.alloc _).alloc _).below b3).alloc _).below b5,((i0.grown b3).grown (ZZ _ _)).grown b5,(((ZP.Xb _).grown b3).grown (ZZ _ _)).grown b5,(((At.Xo _ _ _ [iV (x:Nat),iV G]).grown b3).grown (ZZ _ _)).grown b5,(((((Only.refl _ _).alloc _).alloc _).trans (Only.Z5 b3)).alloc _).trans (Only.Z5 b5)⟩ ?_
 clear b3 b5 i0 k3 sw ps
 rintro W ⟨m1,i1,v1,x1,o1⟩
 apply Xy 11;. kernel_rfl
 apply rV;. intro w' hg _;apply ol;have y:=(v1.dg hg).yy;go_simp;exact gl
 apply rV;. intros;apply ol;go_simp;exact gl
 apply rV;. intro w' hg _;apply ol;have y:=(v1.dg hg).yy;go_simp;exact gl
 apply rV;. intros;apply ol;go_simp;exact gl
 apply rV;. intro w' hg _;apply ol;have z:=(x1.drew.grown hg).at0 0 rfl;go_simp;exact gl
 apply rV (c:=iV (((6+t+x * 2):Nat):Int));. intro w' hg _;apply ol;go_simp;refine(Y4 _ _ _ _ _ _ _ (x:Int) _ hG.arena (by omega) (by omega)).mono ?_;rintro e w'' ⟨rfl,b9⟩;exact⟨_,rfl,b9,congrArg (Value.int .i64) (by omega)⟩
 try simp only[pu,s0,s1]
 iterate 3 (apply rV;. intros;apply ol;go_simp;exact gl)
 apply rV;. intro w' hg _;apply ol;have z:=(i1.drew.grown hg).WQ;go_simp;exact gl
 apply XW;. intros;apply ol;go_simp;exact gl
 try simp only[pu,s0,s1]
 intro w7 hg _
 have m7:=m1.drew.below hg
 have i7:=i1.drew.grown hg
 have x7:=x1.drew.grown hg
 have o7:Only (L.and b) w w7:=o1.drew.trans (Only.Z5 hg)
 clear hg m1 i1 v1 x1 o1
 go_wp2_with (go_at_call 170;refine(Yj m7 _ _ _ _ _ _ _ _ (6+t+x * 2) hn _ _).mono ?_;rintro e w8 ⟨rfl,m8,o8⟩;rw[HD.out];have i8:=i7.only o8 hb;have k0:=i8.Zr;have kf:=i8.fz)
 refine bodyPost_ret (results_none rfl _ _ _) rfl ?_
 exact⟨rfl,_,_,_,m8.ZY hb _ _,(o7.trans (o8.XH (b:=b))).set _ _,i8.Zl 0,Same.refl.set (by omega) _,rfl,rfl⟩
theorem IK {w:World} {L:Loc} {s:Mm} {b o:Nat} {T:TypeId} {cs:Array Value} {t n k m:Nat} {g p r:Int} {a:DV} (h:Z8 w L s) (hb:¬ L.has b) (hi:ZL w b o T cs a) (who:Int) (hG:Good t n k m g p r) {x:Nat} {G:Int} (hx:x<n) (hn:(6+t+x * 2)<s.n) {Z:Int} (hz:a.sz=Z) {st:Int} {A:Nat} {Gs V:Int} (hs:YJ a.se st A Gs V) (hd:decide (s.wd (6+t+x * 2)=a.se)=true) :
 Calls Tryz.prog 185 #[pP b o,eV t n k m g p r L.p who,.agg #[iV x,iV G]] w fun e w'=>e=.returned (.tuple #[])/\Wh L b o T cs w w' (fun s' a'=>s'=((s.by who).Wq (6+t+x * 2) a.se (Zq 4 A Gs (V+1)))/\a'={ a with hl:=Xl x (Zq 4 A Gs (V+1)) Z 0 0 false false false,nx:=4 }):=by
 have HD:Hid (decide (s.wd (6+t+x * 2)=a.se)=true):=hd
 have sw:=hs.call
 have hs1:=hG.s1
 have ab:(A:Int)<=1048575:=by have:=hs.ad;omega
 have gb:0<=Gs/\Gs<=65535:=by have:=hs.gn;omega
 have vb:0<=V/\V<=4194303:=by have:=hs.vr;omega
 have ps:=fun w=>Yo 4 A Gs (V+1) w ⟨by omega,by omega⟩ ⟨by omega,by omega⟩ ⟨by omega,by omega⟩ ⟨by omega,by omega⟩
 have hvw:IntKind.i64.wrap (V+1)=V+1:=by rw[IntKind.wrap_i64];omega
 have HZ:Hid (a.sz=Z):=hz
 clear hd hs hz
 obtain⟨hbv,hbb⟩:=nb h hi.lt
 have YK:¬ L.has (w.heap.size+1):=fun hh=>by have:=h.lt _ hh;omega
 have YR:¬ w.heap.size+1=b:=fun hh=>by have:=hi.lt;omega
 have i0:=(hi.grown (ZZ _ (.cells #[iV t,iV n,iV k,iV m,iV g,iV p,iV r,pP L.p 0,iV who] 27))).grown (ZZ _ (.cells #[iV x,iV G] 213))
 have k3:=i0.WQ
 go_enter Tryz.func185,Tryz.ntmps185
 go_wp2_with (first
  | (go_at_call 145;refine(sw _).mono ?_;rintro e w3 ⟨rfl,b3⟩)
  | (go_at_call 52;refine(ps _).mono ?_;rintro e w5 ⟨rfl,b5⟩))
 refine ZT (fun W=>Z8 W L s/\ZL W b o T cs a/\ZP W w.heap.size t n k m g p r L.p who/\At W (w.heap.size+1) 0 213 #[iV x,iV G] [iV x,iV G]/\Only (L.and b) w W) ⟨((((h.alloc _).alloc _).below b3).alloc _).below b5,((i0.grown b3).grown (ZZ _ _)).grown b5,(((ZP.Xb _).grown b3).grown (ZZ _ _)).grown b5,(((At.Xo _ _ _ [iV (x:Nat),iV G]).grown b3).grown (ZZ _ _)).grown b5,(((((Only.refl _ _).alloc _).alloc _).trans (Only.Z5 b3)).alloc _).trans (Only.Z5 b5)⟩ ?_
 clear b3 b5 i0 k3 sw ps
 rintro W ⟨m1,i1,v1,x1,o1⟩
 apply Xy 11;. kernel_rfl
 apply rV;. intro w' hg _;apply ol;have y:=(v1.dg hg).yy;go_simp;exact gl
 apply rV;. intros;apply ol;go_simp;exact gl
 apply rV;. intro w' hg _;apply ol;have y:=(v1.dg hg).yy;go_simp;exact gl
 apply rV;. intros;apply ol;go_simp;exact gl
 apply rV;. intro w' hg _;apply ol;have z:=(x1.drew.grown hg).at0 0 rfl;go_simp;exact gl
 apply rV (c:=iV (((6+t+x * 2):Nat):Int));. intro w' hg _;apply ol;go_simp;refine(Y4 _ _ _ _ _ _ _ (x:Int) _ hG.arena (by omega) (by omega)).mono ?_;rintro e w'' ⟨rfl,b9⟩;exact⟨_,rfl,b9,congrArg (Value.int .i64) (by omega)⟩
 try simp only[pu,s0,s1]
 iterate 3 (apply rV;. intros;apply ol;go_simp;exact gl)
 apply rV;. intro w' hg _;apply ol;have z:=(i1.drew.grown hg).WQ;go_simp;exact gl
 apply XW;. intros;apply ol;go_simp;exact gl
 try simp only[pu,s0,s1]
 intro w7 hg _
 have m7:=m1.drew.below hg
 have i7:=i1.drew.grown hg
 have x7:=x1.drew.grown hg
 have o7:Only (L.and b) w w7:=o1.drew.trans (Only.Z5 hg)
 clear hg m1 i1 v1 x1 o1
 go_wp2_with (go_at_call 170;refine(Yj m7 _ _ _ _ _ _ _ _ (6+t+x * 2) hn _ _).mono ?_;rintro e w8 ⟨rfl,m8,o8⟩;rw[HD.out];have i8:=i7.only o8 hb;have k0:=i8.Zr;have kf:=i8.fz)
 refine ZT (fun W=>Z8 W L ((s.by who).Wq (6+t+x * 2) a.se (Zq 4 A Gs (V+1)))/\ZL W b o T cs a/\At W (w.heap.size+1) 0 213 #[iV x,iV G] [iV x,iV G]/\Only (L.and b) w W) ⟨m8,i8,x7.only o8 YK,o7.trans (o8.XH (b:=b))⟩ ?_
 clear m7 i7 x7 o7 m8 i8 o8 k0 kf
 rintro W ⟨m1,i1,x1,o1⟩
 refine ZK Grown 13 [.val (pP b o),.val (.pointer (some ⟨w.heap.size+1,0,none⟩)),.val (iV (x:Nat)),.val (.int .u64 (Zq 4 A Gs (V+1))),.val (pP b o),.val (pP b o),.val (pP b (o+5)),.val (iV Z),.that (fun w' v=>∃ X,v=(pP X 0)/\At w' X 0 159 (Xl x (Zq 4 A Gs (V+1)) Z 0 0 false false false).toArray (Xl x (Zq 4 A Gs (V+1)) Z 0 0 false false false)) (fun _ _ _ hg h=>h.imp fun X k=>⟨k.1,k.2.grown hg⟩),.that (fun w' v=>∃ X,v=(pP X 0)/\At w' X 0 159 (Xl x (Zq 4 A Gs (V+1)) Z 0 0 false false false).toArray (Xl x (Zq 4 A Gs (V+1)) Z 0 0 false false false)) (fun _ _ _ hg h=>h.imp fun X k=>⟨k.1,k.2.grown hg⟩),.val (.agg #[iV x,.int .u64 (Zq 4 A Gs (V+1)),iV Z,iV 0,.int .u64 0,.bool false,.bool false,.bool false]),.val (pP b o),.val (pP b (o+6))] (by kernel_rfl) Grown.refl Grown.trans (by decide) (by kernel_rfl) (by kernel_rfl) (by kernel_rfl) (by kernel_rfl) (by kernel_rfl) (by kernel_rfl) ?_
 simp only[List.take_succ_cons,List.take_zero,ZH,Act.put,List.setIfInBounds_toArray,List.set_cons_zero,List.set_cons_succ]
 refine⟨?_,?_,?_,?_,?_,?_,?_,?_,?_,fun v1=>⟨?_,fun v2=>⟨?_,?_,?_,?_⟩⟩⟩
 . intros;apply ol;go_simp;exact gl
 . intros;apply ol;go_simp;exact gl
 . intro w' hg _;apply ol;have z:=(x1.drew.grown hg).at0 0 rfl;go_simp;exact gl
 . intros;apply ol;go_simp;exact gl
 . intros;apply ol;go_simp;exact gl
 . intros;apply ol;go_simp;exact gl
 . intros;apply ol;go_simp;exact gl
 . intro w' hg _;apply ol;have z:=(i1.drew.grown hg).WO;rw[HZ.out] at z;go_simp;exact gl
 . intro w' hg _;apply ol;have q:=At.new w' 159 (Xl x (Zq 4 A Gs (V+1)) Z 0 0 false false false);go_simp;refine(TJ x (Zq 4 A Gs (V+1)) Z _).mono ?_;rintro e w'' ⟨rfl,rfl⟩;exact⟨_,rfl,ZZ _ _,_,rfl,q⟩
 . intro w' hg hf
   apply ol
   obtain⟨X,rfl,q⟩:=hf.1 (by kernel_rfl)
   go_simp
   exact⟨Grown.refl _,X,rfl,q⟩
 . intro w' hg hf
   apply ol
   obtain⟨X,rfl,q⟩:=hf.1 (by kernel_rfl)
   have z0:=q.at0 0 rfl
   have z1:=q.at0 1 rfl
   have z2:=q.at0 2 rfl
   have z3:=q.at0 3 rfl
   have z4:=q.at0 4 rfl
   have z5:=q.at0 5 rfl
   have z6:=q.at0 6 rfl
   have z7:=q.at0 7 rfl
   go_simp
   exact gl
 . intros;apply ol;go_simp;exact gl
 . intros;apply ol;go_simp;exact gl
 intro w9 hg _
 have m10:=m1.drew.below hg
 have i10:=i1.drew.grown hg
 have uo:Only (L.and b) w w9:=o1.drew.trans (Only.Z5 hg)
 clear hg m1 i1 x1 o1
 obtain⟨l0,p0⟩:=i10.Be
 obtain⟨l1,p1⟩:=i10.Bd
 obtain⟨l2,p2⟩:=i10.Bc
 obtain⟨l3,p3⟩:=i10.Ba
 obtain⟨l4,p4⟩:=i10.A8
 obtain⟨l5,p5⟩:=i10.A7
 obtain⟨l6,p6⟩:=i10.AZ
 obtain⟨l7,p7⟩:=i10.AY
 have kf:=i10.fz
 have k0:=i10.Zr
 go_wp2
 go_end0
 obtain⟨y0,y1,y2,y3,y4,y5,y6,y7,hl⟩:=len8 hi.Yr
 exact⟨rfl,_,_,_,(((((((((m10.ZY hb _ _).ZY hb _ _).ZY hb _ _).ZY hb _ _).ZY hb _ _).ZY hb _ _).ZY hb _ _).ZY hb _ _).ZY hb _ _),(((((((((uo.set _ _).set _ _).set _ _).set _ _).set _ _).set _ _).set _ _).set _ _).set _ _),((((((((i10.JV _).JU _).JS _).JR _).JQ _).JP _).JO _).JM _).Zl 4,(((((((((Same.refl.set (by omega) _).set (by omega) _).set (by omega) _).set (by omega) _).set (by omega) _).set (by omega) _).set (by omega) _).set (by omega) _).set (by omega) _),rfl,by simp[hl,Xl]⟩
theorem CP {w:World} {L:Loc} {s:Mm} {b o:Nat} {T:TypeId} {cs:Array Value} {t n k m:Nat} {g p r:Int} {a:DV} (h:Z8 w L s) (hi:ZL w b o T cs a) (who:Int) {x:Nat} {G:Int} (X:Mm->List Value->Prop) (hX:∀ s' l',X s' l'->l'.length=8)
 (hc:∀ w1:World,Z8 w1 L s->At w1 b (o+6) T cs a.hl->Calls Tryz.prog 186 #[pP b (o+6),eV t n k m g p r L.p who] w1 fun e w'=>e=.returned (.bool false)/\Tt L b (o+6) T cs w1 w' X) :
 Calls Tryz.prog 187 #[pP b o,eV t n k m g p r L.p who,.agg #[iV x,iV G]] w fun e w'=>e=.returned (.tuple #[])/\Wh L b o T cs w w' (fun s' a'=>∃ l',X s' l'/\a'={ a with hl:=l' }):=by
 obtain⟨hbv,hbb⟩:=nb h hi.lt
 have YK:¬ L.has (w.heap.size+1):=fun hh=>by have:=h.lt _ hh;omega
 have YR:¬ w.heap.size+1=b:=fun hh=>by have:=hi.lt;omega
 go_enter Tryz.func187,Tryz.ntmps187
 go_wp2
 refine ZT (fun W=>Z8 W L s/\ZL W b o T cs a/\ZP W w.heap.size t n k m g p r L.p who/\At W (w.heap.size+1) 0 213 #[iV x,iV G] [iV x,iV G]/\Only (L.and b) w W) ⟨(h.alloc _).alloc _,(hi.grown (ZZ _ _)).grown (ZZ _ _),ZP.Xb _,At.Xo _ _ _ _,((Only.refl _ _).alloc _).alloc _⟩ ?_
 rintro W ⟨m1,i1,v1,x1,o1⟩
 apply Xy 4;. kernel_rfl
 iterate 3 (apply rV;. intros;apply ol;go_simp;exact gl)
 apply XW;. intro w' hg _;apply ol;have y:=(v1.dg hg).yy;go_simp;exact gl
 try simp only[pu,s0,s1]
 intro w5 hg _
 have m5:=m1.drew.below hg
 have i5:=i1.drew.grown hg
 have v5:=v1.dg hg
 have x5:=x1.drew.grown hg
 have o5:=o1.og hg
 clear hg m1 i1 v1 x1 o1
 go_wp2_with (go_at_call 186;refine(hc _ m5 i5.hlAt).mono ?_;rintro e w6 ⟨rfl,s6,WR,l6,m6,o6,i6,q6,p6⟩;have i7:=i5.SV i6 (hX _ _ p6) q6;have o7:=o5.trans o6;have q7:Same o 21 cs WR:=q6.wide (by omega) (by omega))
 refine bodyPost_ret (results_none rfl _ _ _) rfl ?_
 exact⟨rfl,s6,_,_,m6,o7,i7,q7,l6,p6,rfl⟩
theorem IJ {w:World} {L:Loc} {s:Mm} {b o:Nat} {T:TypeId} {cs:Array Value} {t n k m:Nat} {g p r:Int} {a:DV} (h:Z8 w L s) (hb:¬ L.has b) (hi:ZL w b o T cs a) (who:Int) (hG:Good t n k m g p r) {x:Nat} {G:Int} (hx:x<n) (X:Mm->List Value->Prop) (hX:∀ s' l',X s' l'->l'.length=8) (hn:∀ s' l',X s' l'->(6+t+x * 2)<s'.n)
 (hc:∀ w1:World,Z8 w1 L s->At w1 b (o+6) T cs a.hl->Calls Tryz.prog 186 #[pP b (o+6),eV t n k m g p r L.p who] w1 fun e w'=>e=.returned (.bool true)/\Tt L b (o+6) T cs w1 w' X) :
 Calls Tryz.prog 187 #[pP b o,eV t n k m g p r L.p who,.agg #[iV x,iV G]] w fun e w'=>e=.returned (.tuple #[])/\Wh L b o T cs w w' (fun s' a'=>∃ l',X s' l'/\a'={ a with hl:=l',St:=s'.wn (6+t+x * 2),nx:=5 }):=by
 have hs1:=hG.s1
 obtain⟨hbv,hbb⟩:=nb h hi.lt
 have YK:¬ L.has (w.heap.size+1):=fun hh=>by have:=h.lt _ hh;omega
 have YR:¬ w.heap.size+1=b:=fun hh=>by have:=hi.lt;omega
 go_enter Tryz.func187,Tryz.ntmps187
 go_wp2
 refine ZT (fun W=>Z8 W L s/\ZL W b o T cs a/\ZP W w.heap.size t n k m g p r L.p who/\At W (w.heap.size+1) 0 213 #[iV x,iV G] [iV x,iV G]/\Only (L.and b) w W) ⟨(h.alloc _).alloc _,(hi.grown (ZZ _ _)).grown (ZZ _ _),ZP.Xb _,At.Xo _ _ _ _,((Only.refl _ _).alloc _).alloc _⟩ ?_
 rintro W ⟨m1,i1,v1,x1,o1⟩
 apply Xy 4;. kernel_rfl
 iterate 3 (apply rV;. intros;apply ol;go_simp;exact gl)
 apply XW;. intro w' hg _;apply ol;have y:=(v1.dg hg).yy;go_simp;exact gl
 try simp only[pu,s0,s1]
 intro w5 hg _
 have m5:=m1.drew.below hg
 have i5:=i1.drew.grown hg
 have v5:=v1.dg hg
 have x5:=x1.drew.grown hg
 have o5:=o1.og hg
 clear hg m1 i1 v1 x1 o1
 go_wp2_with (go_at_call 186;refine(hc _ m5 i5.hlAt).mono ?_;rintro e w6 ⟨rfl,s6,WR,l6,m6,o6,i6,q6,p6⟩;have i7:=i5.SV i6 (hX _ _ p6) q6;have o7:=o5.trans o6;have q7:Same o 21 cs WR:=q6.wide (by omega) (by omega))
 refine ZT (fun W=>Z8 W L s6/\ZL W b o T WR { a with hl:=l6 }/\ZP W w.heap.size t n k m g p r L.p who/\At W (w.heap.size+1) 0 213 #[iV x,iV G] [iV x,iV G]/\Only (L.and b) w W) ⟨m6,i7,v5.only o6 (fun hh=>hh.elim hbv hbb),x5.only o6 (fun hh=>hh.elim YK YR),o7⟩ ?_
 clear m5 i5 v5 x5 o5 m6 i6 i7 o6 o7 q6
 rintro W ⟨m1,i1,v1,x1,o1⟩
 apply Xy 12;. kernel_rfl
 iterate 2 (apply rV;. intros;apply ol;go_simp;exact gl)
 apply rV;. intro w' hg _;apply ol;have y:=(v1.dg hg).yy;go_simp;exact gl
 apply rV;. intros;apply ol;go_simp;exact gl
 apply rV;. intro w' hg _;apply ol;have y:=(v1.dg hg).yy;go_simp;exact gl
 apply rV;. intros;apply ol;go_simp;exact gl
 try simp only[pu,s0,s1]
 apply rV;. intro w' hg _;apply ol;have z:=(x1.drew.grown hg).at0 0 rfl;go_simp;exact gl
 apply rV (c:=iV (((6+t+x * 2):Nat):Int));. intro w' hg _;apply ol;go_simp;refine(Y4 _ _ _ _ _ _ _ (x:Int) _ hG.arena (by omega) (by omega)).mono ?_;rintro e w'' ⟨rfl,b9⟩;exact⟨_,rfl,b9,congrArg (Value.int .i64) (by omega)⟩
 apply rV;. intro w' hg _;apply ol;go_simp;exact cc (CO (m1.drew.below hg) (6+t+x * 2) (hn _ _ p6))
 iterate 2 (apply rV;. intros;apply ol;go_simp;exact gl)
 apply XW;. intros;apply ol;go_simp;exact gl
 try simp only[pu,s0,s1]
 intro w8 hg _
 have m8:=m1.drew.below hg
 have i8:=i1.drew.grown hg
 have o8:Only (L.and b) w w8:=o1.drew.trans (Only.Z5 hg)
 clear hg m1 i1 v1 x1 o1
 have k1:=i8.SN
 have k0:=i8.Zr
 have kf:=i8.fz
 go_wp2
 go_end0
 exact⟨rfl,s6,_,_,(m8.ZY hb _ _).ZY hb _ _,(o8.set _ _).set _ _,(i8.Vs _).Zl 5,(q7.set (by omega) _).set (by omega) _,l6,p6,rfl⟩
theorem RI {w:World} {L:Loc} {s:Mm} {b o:Nat} {T:TypeId} {cs:Array Value} {t n k m:Nat} {g p r:Int} {a:DV} (h:Z8 w L s) (hb:¬ L.has b) (hi:ZL w b o T cs a) (who:Int) (hG:Good t n k m g p r) {x:Nat} {G:Int} {i:Nat} (hc:a.ch=i) (hik:i<k) {Z:Int} (hz:a.sz=Z) {κ:Nat} (rE:ZR Z=κ) (hκ:κ<4) (hn:(6+t+n * 2+i * 3+1)<s.n) {dl:Bool} {z:Int} (hl:decide (g<=G)=dl) (H:(dl=false/\z=6)\/(dl=true/\z=7)) :
 Calls Tryz.prog 188 #[pP b o,eV t n k m g p r L.p who,.agg #[iV x,iV G]] w fun e w'=>e=.returned (.tuple #[])/\Wh L b o T cs w w' (fun s' a'=>s'=((s.by who).step (6+t+n * 2+i * 3+1) (sum64 (s.wd (6+t+n * 2+i * 3+1)) (Xv (-(room κ:Int)))))/\a'={ a with gl:=U3 0 x 0,nx:=z }):=by
 have HZ:Hid (a.sz=Z):=hz
 have HC:Hid (a.ch=i):=hc
 have lc:=fun w=>WM Z w
 rw[rE] at lc
 have hk1:=hG.k1
 have ht1:=hG.t1
 have hn1:=hG.s1
 have hr:=Yg κ
 have la:=fun w=>Ud t n k m g p r G w
 rw[hl] at la
 clear hz hc rE
 obtain⟨hbv,hbb⟩:=nb h hi.lt
 have YK:¬ L.has (w.heap.size+1):=fun hh=>by have:=h.lt _ hh;omega
 have YR:¬ w.heap.size+1=b:=fun hh=>by have:=hi.lt;omega
 go_enter Tryz.func188,Tryz.ntmps188
 go_wp2
 refine ZT (fun W=>Z8 W L s/\ZL W b o T cs a/\ZP W w.heap.size t n k m g p r L.p who/\At W (w.heap.size+1) 0 213 #[iV x,iV G] [iV x,iV G]/\Only (L.and b) w W) ⟨(h.alloc _).alloc _,(hi.grown (ZZ _ _)).grown (ZZ _ _),ZP.Xb _,At.Xo _ _ _ _,((Only.refl _ _).alloc _).alloc _⟩ ?_
 rintro W ⟨m1,i1,v1,x1,o1⟩
 apply Xy 16;. kernel_rfl
 apply rV;. intro w' hg _;apply ol;have y:=(v1.dg hg).yy;go_simp;exact gl
 apply rV;. intros;apply ol;go_simp;exact gl
 apply rV;. intro w' hg _;apply ol;have y:=(v1.dg hg).yy;go_simp;exact gl
 iterate 3 (apply rV;. intros;apply ol;go_simp;exact gl)
 try simp only[pu,s0,s1]
 apply rV;. intro w' hg _;apply ol;have z:=(i1.drew.grown hg).zG;rw[HC.out] at z;go_simp;exact gl
 apply rV;. intro w' hg _;apply ol;go_simp;exact cb (WI _ _ _ _ _ _ _ (i:Int) _ hG.arena (by omega) (by omega))
 apply rV (c:=iV (((6+t+n * 2+i * 3+1):Nat):Int));. intro w' hg _;apply ol;go_simp;exact⟨Grown.refl _,congrArg (Value.int .i64) (by rw[IntKind.wrap_i64];omega)⟩
 iterate 3 (apply rV;. intros;apply ol;go_simp;exact gl)
 try simp only[pu,s0,s1]
 apply rV;. intro w' hg _;apply ol;have z:=(i1.drew.grown hg).WO;rw[HZ.out] at z;go_simp;exact gl
 apply rV;. intro w' hg _;apply ol;go_simp;exact cc (lc _)
 apply rV;. intro w' hg _;apply ol;go_simp;exact cc (VJ κ hκ _)
 apply XW (c:=iV (-(room κ:Int)));. intro w' hg _;apply ol;go_simp;exact⟨Grown.refl _,congrArg (Value.int .i64) (by rw[IntKind.wrap_i64];omega)⟩
 try simp only[pu,s0,s1]
 intro w5 hg _
 have m5:=m1.drew.below hg
 have i5:=i1.drew.grown hg
 have v5:=v1.dg hg
 have x5:=x1.drew.grown hg
 have o5:=o1.og hg
 clear hg m1 i1 v1 x1 o1
 obtain⟨z0,z1,z2,hgl⟩:=xw hi.WW
 go_wp2_with (first
  | (go_at_call 150;refine(JW m5 _ _ _ _ _ _ _ _ (6+t+n * 2+i * 3+1) hn _).mono ?_;rintro e w6 ⟨rfl,m6,o6⟩;have x6:=x5.only o6 YK;have v6:=v5.only o6 hbv;have i6:=i5.only o6 hb;have u0:=x6.at0 0 rfl;have o7:=o5.trans (o6.XH (b:=b)))
  | (go_at_call 149;refine(TK x _).mono ?_;rintro e w8 ⟨rfl,rfl⟩;have i8:=i6.grown (ZZ _ (.cells #[iV 0,iV x,.int .u64 0] 155));have x8:=x6.grown (ZZ _ (.cells #[iV 0,iV x,.int .u64 0] 155));have v8:=v6.grown (ZZ _ (.cells #[iV 0,iV x,.int .u64 0] 155));have m8:=m6.alloc (.cells #[iV 0,iV x,.int .u64 0] 155);have o8:=o7.alloc (.cells #[iV 0,iV x,.int .u64 0] 155);obtain⟨p0,k1⟩:=i8.xe;obtain⟨p1,k2⟩:=i8.wZ;obtain⟨p2,k3⟩:=i8.wY;have k0:=i8.Zr;have kf:=i8.fz;have i9:=(((i8.CW (iV 0)).CU (iV x)).CS (.int .u64 0)).Zl 6;have x9:=(((x8.other YR (o+14) (iV 0)).other YR (o+15) (iV x)).other YR (o+16) (.int .u64 0)).other YR o (iV 6);have v9:=(((v8.ZY hbb (o+14) (iV 0)).ZY hbb (o+15) (iV x)).ZY hbb (o+16) (.int .u64 0)).ZY hbb o (iV 6);have u1:=x9.at0 1 rfl;obtain⟨y0,y1,y2,y3,y4,y5,y6,y7,y8⟩:=id v9))
 go_at_call 199
 refine(la _).mono ?_
 rintro e w9 ⟨rfl,b9⟩
 have i10:=i9.grown b9
 have t0:=i10.Zr
 have tf:=i10.fz
 rcases H with⟨rfl,rfl⟩ | ⟨rfl,rfl⟩
 . go_wp2
   go_end0
   exact⟨rfl,_,_,_,(((((m8.ZY hb _ _).ZY hb _ _).ZY hb _ _).ZY hb _ _).below b9),(((((o8.set _ _).set _ _).set _ _).set _ _).trans (Only.Z5 b9)),i10,((((Same.refl.set (by omega) _).set (by omega) _).set (by omega) _).set (by omega) _),rfl,by simp[hgl,U3]⟩
 . go_wp2
   go_end0
   exact⟨rfl,_,_,_,(((((m8.ZY hb _ _).ZY hb _ _).ZY hb _ _).ZY hb _ _).below b9).ZY hb _ _,(((((o8.set _ _).set _ _).set _ _).set _ _).trans (Only.Z5 b9)).set _ _,i10.Zl 7,((((Same.refl.set (by omega) _).set (by omega) _).set (by omega) _).set (by omega) _).set (by omega) _,rfl,by simp[hgl,U3]⟩
end
section
set_option maxRecDepth 20000
structure YY (nu:Int) (x:Nat) (G:Int):Prop where
 lo:65536<=nu
 hi:nu<=4294967295
 x:nu % 65536=x
 g:nu / 65536=G
theorem YY.call {nu:Int} {x:Nat} {G:Int} (h:YY nu x G) (w:World) :
 Calls Tryz.prog 180 #[.int .u64 nu] w fun e w'=>e=.returned (.tuple #[.agg #[iV x,iV G],.bool true])/\Below w.heap.size w w':=by
 have e:=LP nu w h.lo h.hi
 rwa [h.x,h.g] at e
set_option maxHeartbeats 400000 in
theorem YT {w:World} {L:Loc} {s:Mm} {b o:Nat} {T:TypeId} {cs:Array Value} {t n k m:Nat} {g p r:Int} {a:DV} (h:Z8 w L s) (hi:ZL w b o T cs a) (who:Int) (hG:Good t n k m g p r) (hlen:ZI t n k m<=s.n) {x:Nat} {G:Int} (hh:YY a.nu x G) (hx:x<n) {z:Int} (hnx:a.nx=z) {f:Nat} (hf:(z=0/\f=183)\/(z=1/\f=184)\/(z=2/\f=185)\/(z=4/\f=187)\/(z=5/\f=188)) (X:Mm->DV->Prop) (d:Bool) (hX:∀ s' a',X s' a'->(a'.nx == 7)=d)
 (hc:∀ w1:World,Z8 w1 L s->ZL w1 b o T cs a->Calls Tryz.prog f #[pP b o,eV t n k m g p r L.p who,.agg #[iV x,iV G]] w1 fun e w'=>e=.returned (.tuple #[])/\Wh L b o T cs w1 w' X) :
 Calls Tryz.prog 179 #[pP b o,eV t n k m g p r L.p who] w fun e w'=>e=.returned (.bool d)/\Wh L b o T cs w w' X:=by
 have hw:=hh.call
 have ds:=fun(w':World) (m':Z8 w' L s)=>YA (x:=x) m' hG hlen who
 rw[decide_eq_true (by omega)] at ds
 have i0:=hi.grown (ZZ _ (.cells #[iV t,iV n,iV k,iV m,iV g,iV p,iV r,pP L.p 0,iV who] 27))
 have k0:=i0.Zr
 have k1:=i0.SQ
 rw[hnx] at k0
 clear hh
 rcases hf with⟨rfl,rfl⟩ | ⟨rfl,rfl⟩ | ⟨rfl,rfl⟩ | ⟨rfl,rfl⟩ | ⟨rfl,rfl⟩
 all_goals
  go_enter Tryz.func179,Tryz.ntmps179
  go_wp2_with (first
   | (go_at_call 180;refine(hw _).mono ?_;rintro e w1 ⟨rfl,b1⟩;have i1:=(i0.grown b1).grown (ZZ _ (.cells #[iV x,iV G] 213));have v1:=(ZP.new.grown b1).grown (ZZ _ (.cells #[iV x,iV G] 213));have m1:=((h.alloc _).below b1).alloc (.cells #[iV x,iV G] 213);have o1:Only (L.and b) w (w1.alloc (.cells #[iV x,iV G] 213)):=(((Only.refl _ _).alloc _).trans (Only.Z5 b1)).alloc (.cells #[iV x,iV G] 213);have x1:=At.new w1 213 [iV (x:Nat),iV G];have u0:=x1.at0 0 rfl;obtain⟨y0,y1,y2,y3,y4,y5,y6,y7,y8⟩:=id v1)
   | (go_at_call 181;refine(ds _ m1).mono ?_;rintro e w2 ⟨rfl,b2⟩;have i2:=i1.grown b2;have v2:=v1.grown b2;have m2:=m1.below b2;have x2:=x1.grown b2;have o2:=o1.trans (Only.Z5 b2);have q0:=x2.at0 0 rfl;have q1:=x2.at0 1 rfl;have k2:=i2.Zr;rw[hnx] at k2;obtain⟨z0,z1,z2,z3,z4,z5,z6,z7,z8⟩:=id v2;have kf:=i2.fz)
   | (go_at_call 183;refine(hc _ m2 i2).mono ?_;rintro e w3 ⟨rfl,s3,QS,a3,m3,o3,i3,q3,p3⟩;have k3:=i3.Zr) | (go_at_call 184;refine(hc _ m2 i2).mono ?_;rintro e w3 ⟨rfl,s3,QS,a3,m3,o3,i3,q3,p3⟩;have k3:=i3.Zr) | (go_at_call 185;refine(hc _ m2 i2).mono ?_;rintro e w3 ⟨rfl,s3,QS,a3,m3,o3,i3,q3,p3⟩;have k3:=i3.Zr) | (go_at_call 187;refine(hc _ m2 i2).mono ?_;rintro e w3 ⟨rfl,s3,QS,a3,m3,o3,i3,q3,p3⟩;have k3:=i3.Zr) | (go_at_call 188;refine(hc _ m2 i2).mono ?_;rintro e w3 ⟨rfl,s3,QS,a3,m3,o3,i3,q3,p3⟩;have k3:=i3.Zr))
  go_ret
  exact⟨XV (hX _ _ p3),s3,QS,a3,m3,o2.trans o3,i3,q3,p3⟩
theorem Jf {w:World} {L:Loc} {s:Mm} {b o:Nat} {T:TypeId} {cs:Array Value} {t n k m:Nat} {g p r:Int} {a:DV} (h:Z8 w L s) (hi:ZL w b o T cs a) (who:Int) (hG:Good t n k m g p r) (hlen:ZI t n k m<=s.n) {x:Nat} {G:Int} (hh:YY a.nu x G) (hb:¬ L.has b) (hx:n<=x) (hnx:a.nx=0) {σ:Nat} (hσ:s.steps=σ) :
 Calls Tryz.prog 179 #[pP b o,eV t n k m g p r L.p who] w fun e w'=>e=.returned (.bool true)/\Wh L b o T cs w w' (fun s' a'=>s'=s/\a'={ a with nx:=7,E:=3,H:=0,V:=0,St:=σ }):=by
 have zC:a.nx<5:=by omega
 have hw:=hh.call
 have ds:=fun(w':World) (m':Z8 w' L s)=>YA (x:=x) m' hG hlen who
 rw[decide_eq_false (by omega)] at ds
 have i0:=hi.grown (ZZ _ (.cells #[iV t,iV n,iV k,iV m,iV g,iV p,iV r,pP L.p 0,iV who] 27))
 have k0:=i0.Zr
 have k1:=i0.SQ
 rw[hnx] at k0
 clear hh
 go_enter Tryz.func179,Tryz.ntmps179
 go_wp2_with (first
  | (go_at_call 180;refine(hw _).mono ?_;rintro e w1 ⟨rfl,b1⟩;have i1:=(i0.grown b1).grown (ZZ _ (.cells #[iV x,iV G] 213));have v1:=(ZP.new.grown b1).grown (ZZ _ (.cells #[iV x,iV G] 213));have m1:=((h.alloc _).below b1).alloc (.cells #[iV x,iV G] 213);have o1:Only (L.and b) w (w1.alloc (.cells #[iV x,iV G] 213)):=(((Only.refl _ _).alloc _).trans (Only.Z5 b1)).alloc (.cells #[iV x,iV G] 213);have x1:=At.new w1 213 [iV (x:Nat),iV G];have u0:=x1.at0 0 rfl;obtain⟨y0,y1,y2,y3,y4,y5,y6,y7,y8⟩:=id v1)
  | (go_at_call 181;refine(ds _ m1).mono ?_;rintro e w2 ⟨rfl,b2⟩;have i2:=i1.grown b2;have v2:=v1.grown b2;have m2:=m1.below b2;have x2:=x1.grown b2;have o2:=o1.trans (Only.Z5 b2);have q0:=x2.at0 0 rfl;have q1:=x2.at0 1 rfl;obtain⟨z0,z1,z2,z3,z4,z5,z6,z7,z8⟩:=id v2;have kf:=i2.fz)
  | (go_at_call 182;refine(SX m2 hb i2 who zC σ hσ).mono ?_;rintro e w3 ⟨rfl,s3,QS,a3,m3,o3,i3,q3,rfl,rfl⟩))
 go_ret
 exact⟨rfl,_,QS,_,m3,o2.trans o3,i3,q3,rfl,rfl⟩
theorem MC {w:World} {L:Loc} {s:Mm} {b o:Nat} {T:TypeId} {cs:Array Value} {t n k m:Nat} {g p r:Int} {a:DV} (h:Z8 w L s) (hb:¬ L.has b) (hi:ZL w b o T cs a) (who:Int) (h0:0<=a.nu) (h1:a.nu<=18446744073709551615) (hn:a.nu<65536\/4294967296<=a.nu) (hnx:a.nx=0) {σ:Nat} (hσ:s.steps=σ) :
 Calls Tryz.prog 179 #[pP b o,eV t n k m g p r L.p who] w fun e w'=>e=.returned (.bool true)/\Wh L b o T cs w w' (fun s' a'=>s'=s/\a'={ a with nx:=7,E:=3,H:=0,V:=0,St:=σ }):=by
 have zC:a.nx<5:=by omega
 have hw:=fun w=>QC a.nu w h0 h1 hn
 have i0:=hi.grown (ZZ _ (.cells #[iV t,iV n,iV k,iV m,iV g,iV p,iV r,pP L.p 0,iV who] 27))
 have k0:=i0.Zr
 have k1:=i0.SQ
 rw[hnx] at k0
 clear hn
 go_enter Tryz.func179,Tryz.ntmps179
 go_wp2_with (first
  | (go_at_call 180;refine(hw _).mono ?_;rintro e w1 ⟨rfl,b1⟩;have i1:=(i0.grown b1).grown (ZZ _ (.cells #[iV 0,iV 0] 213));have v1:=(ZP.new.grown b1).grown (ZZ _ (.cells #[iV 0,iV 0] 213));have m1:=((h.alloc _).below b1).alloc (.cells #[iV 0,iV 0] 213);have o1:Only (L.and b) w (w1.alloc (.cells #[iV 0,iV 0] 213)):=(((Only.refl _ _).alloc _).trans (Only.Z5 b1)).alloc (.cells #[iV 0,iV 0] 213);have x1:=At.new w1 213 [iV 0,iV 0];have u0:=x1.at0 0 rfl;obtain⟨y0,y1,y2,y3,y4,y5,y6,y7,y8⟩:=id v1)
  | (go_at_call 182;refine(SX m1 hb i1 who zC σ hσ).mono ?_;rintro e w3 ⟨rfl,s3,QS,a3,m3,o3,i3,q3,rfl,rfl⟩))
 go_ret
 exact⟨rfl,_,QS,_,m3,o1.trans o3,i3,q3,rfl,rfl⟩
set_option maxHeartbeats 400000 in
theorem QL {w:World} {L:Loc} {s:Mm} {b o:Nat} {T:TypeId} {cs:Array Value} {t n k m:Nat} {g p r:Int} {a:DV} (h:Z8 w L s) (hi:ZL w b o T cs a) (who:Int) (hG:Good t n k m g p r) (hlen:ZI t n k m<=s.n) {x:Nat} {G:Int} (hh:YY a.nu x G) (hx:x<n) (hnx:a.nx=3) (X:Mm->List Value->Prop) (hX:∀ s' l',X s' l'->l'.length=8)
 (hc:∀ w1:World,Z8 w1 L s->At w1 b (o+6) T cs a.hl->Calls Tryz.prog 186 #[pP b (o+6),eV t n k m g p r L.p who] w1 fun e w'=>e=.returned (.bool false)/\Tt L b (o+6) T cs w1 w' X) :
 Calls Tryz.prog 179 #[pP b o,eV t n k m g p r L.p who] w fun e w'=>e=.returned (.bool false)/\Wh L b o T cs w w' (fun s' a'=>∃ l',X s' l'/\a'={ a with hl:=l' }):=by
 have hw:=hh.call
 have ds:=fun(w':World) (m':Z8 w' L s)=>YA (x:=x) m' hG hlen who
 rw[decide_eq_true (by omega)] at ds
 have i0:=hi.grown (ZZ _ (.cells #[iV t,iV n,iV k,iV m,iV g,iV p,iV r,pP L.p 0,iV who] 27))
 have k0:=i0.Zr
 have k1:=i0.SQ
 rw[hnx] at k0
 clear hh
 obtain⟨hbv,hbb⟩:=nb h hi.lt
 have YK:¬ L.has (w.heap.size+1):=fun hh=>by have:=h.lt _ hh;omega
 have YR:¬ w.heap.size+1=b:=fun hh=>by have:=hi.lt;omega
 go_enter Tryz.func179,Tryz.ntmps179
 go_wp2_with (first
  | (go_at_call 180;refine(hw _).mono ?_;rintro e w1 ⟨rfl,b1⟩;have i1:=(i0.grown b1).grown (ZZ _ (.cells #[iV x,iV G] 213));have v1:=(ZP.new.grown b1).grown (ZZ _ (.cells #[iV x,iV G] 213));have m1:=((h.alloc _).below b1).alloc (.cells #[iV x,iV G] 213);have o1:Only (L.and b) w (w1.alloc (.cells #[iV x,iV G] 213)):=(((Only.refl _ _).alloc _).trans (Only.Z5 b1)).alloc (.cells #[iV x,iV G] 213);have x1:=At.new w1 213 [iV (x:Nat),iV G];have u0:=x1.at0 0 rfl;obtain⟨y0,y1,y2,y3,y4,y5,y6,y7,y8⟩:=id v1)
  | (go_at_call 181;refine(ds _ m1).mono ?_;rintro e w2 ⟨rfl,b2⟩;have i2:=i1.grown b2;have v2:=v1.grown b2;have m2:=m1.below b2;have x2:=x1.grown b2;have o2:=o1.trans (Only.Z5 b2);have q0:=x2.at0 0 rfl;have q1:=x2.at0 1 rfl;have k2:=i2.Zr;rw[hnx] at k2;obtain⟨z0,z1,z2,z3,z4,z5,z6,z7,z8⟩:=id v2;have kf:=i2.fz))
 refine ZT (fun W=>Z8 W L s/\ZL W b o T cs a/\ZP W w.heap.size t n k m g p r L.p who/\Only (L.and b) w W) ⟨m2,i2,v2,o2⟩ ?_
 clear b1 b2 i0 i1 i2 v1 v2 m1 m2 x1 x2 o1 o2 u0 q0 q1 k0 k1 k2 kf y0 z0 y1 z1 y2 z2 y3 z3 y4 z4 y5 z5 y6 z6 y7 z7 y8 z8
 rintro W ⟨m1,i1,v1,o1⟩
 apply Xy 4;. kernel_rfl
 iterate 3 (apply rV;. intros;apply ol;go_simp;exact gl)
 apply XW;. intro w' hg _;apply ol;have y:=(v1.dg hg).yy;go_simp;exact gl
 try simp only[pu,s0,s1]
 intro w5 hg _
 have m5:=m1.drew.below hg
 have i5:=i1.drew.grown hg
 have o5:=o1.og hg
 clear hg m1 i1 v1 o1
 go_wp2_with (go_at_call 186;refine(hc _ m5 i5.hlAt).mono ?_;rintro e w6 ⟨rfl,s6,WR,l6,m6,o6,i6,q6,p6⟩;have i7:=i5.SV i6 (hX _ _ p6) q6;have o7:=o5.trans o6;have q7:Same o 21 cs WR:=q6.wide (by omega) (by omega);have k0:=i7.Zr;rw[show ({ a with hl:=l6 }:DV).nx=3 from hnx] at k0;have kf:=i7.fz)
 go_ret
 exact⟨rfl,s6,WR,_,m6,o7,i7,q7,l6,p6,rfl⟩
set_option maxHeartbeats 400000 in
theorem Tq {w:World} {L:Loc} {s:Mm} {b o:Nat} {T:TypeId} {cs:Array Value} {t n k m:Nat} {g p r:Int} {a:DV} (h:Z8 w L s) (hi:ZL w b o T cs a) (who:Int) (hG:Good t n k m g p r) (hlen:ZI t n k m<=s.n) {x:Nat} {G:Int} (hh:YY a.nu x G) (hb:¬ L.has b) (hx:x<n) (hnx:a.nx=3) (X:Mm->List Value->Prop) (hX:∀ s' l',X s' l'->l'.length=8)
 (hc:∀ w1:World,Z8 w1 L s->At w1 b (o+6) T cs a.hl->Calls Tryz.prog 186 #[pP b (o+6),eV t n k m g p r L.p who] w1 fun e w'=>e=.returned (.bool true)/\Tt L b (o+6) T cs w1 w' X) :
 Calls Tryz.prog 179 #[pP b o,eV t n k m g p r L.p who] w fun e w'=>e=.returned (.bool false)/\Wh L b o T cs w w' (fun s' a'=>∃ l',X s' l'/\a'={ a with hl:=l',nx:=0 }):=by
 have hw:=hh.call
 have ds:=fun(w':World) (m':Z8 w' L s)=>YA (x:=x) m' hG hlen who
 rw[decide_eq_true (by omega)] at ds
 have i0:=hi.grown (ZZ _ (.cells #[iV t,iV n,iV k,iV m,iV g,iV p,iV r,pP L.p 0,iV who] 27))
 have k0:=i0.Zr
 have k1:=i0.SQ
 rw[hnx] at k0
 clear hh
 obtain⟨hbv,hbb⟩:=nb h hi.lt
 have YK:¬ L.has (w.heap.size+1):=fun hh=>by have:=h.lt _ hh;omega
 have YR:¬ w.heap.size+1=b:=fun hh=>by have:=hi.lt;omega
 go_enter Tryz.func179,Tryz.ntmps179
 go_wp2_with (first
  | (go_at_call 180;refine(hw _).mono ?_;rintro e w1 ⟨rfl,b1⟩;have i1:=(i0.grown b1).grown (ZZ _ (.cells #[iV x,iV G] 213));have v1:=(ZP.new.grown b1).grown (ZZ _ (.cells #[iV x,iV G] 213));have m1:=((h.alloc _).below b1).alloc (.cells #[iV x,iV G] 213);have o1:Only (L.and b) w (w1.alloc (.cells #[iV x,iV G] 213)):=(((Only.refl _ _).alloc _).trans (Only.Z5 b1)).alloc (.cells #[iV x,iV G] 213);have x1:=At.new w1 213 [iV (x:Nat),iV G];have u0:=x1.at0 0 rfl;obtain⟨y0,y1,y2,y3,y4,y5,y6,y7,y8⟩:=id v1)
  | (go_at_call 181;refine(ds _ m1).mono ?_;rintro e w2 ⟨rfl,b2⟩;have i2:=i1.grown b2;have v2:=v1.grown b2;have m2:=m1.below b2;have x2:=x1.grown b2;have o2:=o1.trans (Only.Z5 b2);have q0:=x2.at0 0 rfl;have q1:=x2.at0 1 rfl;have k2:=i2.Zr;rw[hnx] at k2;obtain⟨z0,z1,z2,z3,z4,z5,z6,z7,z8⟩:=id v2;have kf:=i2.fz))
 refine ZT (fun W=>Z8 W L s/\ZL W b o T cs a/\ZP W w.heap.size t n k m g p r L.p who/\Only (L.and b) w W) ⟨m2,i2,v2,o2⟩ ?_
 clear b1 b2 i0 i1 i2 v1 v2 m1 m2 x1 x2 o1 o2 u0 q0 q1 k0 k1 k2 kf y0 z0 y1 z1 y2 z2 y3 z3 y4 z4 y5 z5 y6 z6 y7 z7 y8 z8
 rintro W ⟨m1,i1,v1,o1⟩
 apply Xy 4;. kernel_rfl
 iterate 3 (apply rV;. intros;apply ol;go_simp;exact gl)
 apply XW;. intro w' hg _;apply ol;have y:=(v1.dg hg).yy;go_simp;exact gl
 try simp only[pu,s0,s1]
 intro w5 hg _
 have m5:=m1.drew.below hg
 have i5:=i1.drew.grown hg
 have o5:=o1.og hg
 clear hg m1 i1 v1 o1
 go_wp2_with (go_at_call 186;refine(hc _ m5 i5.hlAt).mono ?_;rintro e w6 ⟨rfl,s6,WR,l6,m6,o6,i6,q6,p6⟩;have i7:=i5.SV i6 (hX _ _ p6) q6;have o7:=o5.trans o6;have q7:Same o 21 cs WR:=q6.wide (by omega) (by omega);have k0:=i7.Zr;rw[show ({ a with hl:=l6 }:DV).nx=3 from hnx] at k0;have kf:=i7.fz)
 go_ret
 exact⟨rfl,s6,_,_,m6.ZY hb _ _,o7.set _ _,i7.Zl 0,q7.set (by omega) _,l6,p6,rfl⟩
set_option maxHeartbeats 400000 in
theorem QK {w:World} {L:Loc} {s:Mm} {b o:Nat} {T:TypeId} {cs:Array Value} {t n k m:Nat} {g p r:Int} {a:DV} (h:Z8 w L s) (hi:ZL w b o T cs a) (who:Int) (hG:Good t n k m g p r) (hlen:ZI t n k m<=s.n) {x:Nat} {G:Int} (hh:YY a.nu x G) (hx:x<n) (hnx:a.nx=6) {σ c c':Nat} {lk lk':Nat->Nat} {F F':List Nat} {γ γ':Gv}
 (hc:∀ w1:World,Z8 w1 L s->At w1 b (o+14) T cs a.gl->Calls Tryz.prog 154 #[pP b (o+14),eV t n k m g p r L.p who] w1 fun e w'=>e=.returned (.bool false)/\∃ s' cs',Dc w1 L s b (o+14) T cs t n σ c lk F x who γ w' s' cs' c' lk' F' γ') :
 Calls Tryz.prog 179 #[pP b o,eV t n k m g p r L.p who] w fun e w'=>e=.returned (.bool false)/\Wh L b o T cs w w' (fun s' a'=>YH t n s' (σ+1) c' lk' F'/\(∃ v,s'=(s.by who).step (γ.at t x) v)/\γ'.good n c' lk' F' x/\∃ l',γ'.cells x l'/\a'={ a with gl:=l' }):=by
 have hw:=hh.call
 have ds:=fun(w':World) (m':Z8 w' L s)=>YA (x:=x) m' hG hlen who
 rw[decide_eq_true (by omega)] at ds
 have i0:=hi.grown (ZZ _ (.cells #[iV t,iV n,iV k,iV m,iV g,iV p,iV r,pP L.p 0,iV who] 27))
 have k0:=i0.Zr
 have k1:=i0.SQ
 rw[hnx] at k0
 clear hh
 obtain⟨hbv,hbb⟩:=nb h hi.lt
 have YK:¬ L.has (w.heap.size+1):=fun hh=>by have:=h.lt _ hh;omega
 have YR:¬ w.heap.size+1=b:=fun hh=>by have:=hi.lt;omega
 go_enter Tryz.func179,Tryz.ntmps179
 go_wp2_with (first
  | (go_at_call 180;refine(hw _).mono ?_;rintro e w1 ⟨rfl,b1⟩;have i1:=(i0.grown b1).grown (ZZ _ (.cells #[iV x,iV G] 213));have v1:=(ZP.new.grown b1).grown (ZZ _ (.cells #[iV x,iV G] 213));have m1:=((h.alloc _).below b1).alloc (.cells #[iV x,iV G] 213);have o1:Only (L.and b) w (w1.alloc (.cells #[iV x,iV G] 213)):=(((Only.refl _ _).alloc _).trans (Only.Z5 b1)).alloc (.cells #[iV x,iV G] 213);have x1:=At.new w1 213 [iV (x:Nat),iV G];have u0:=x1.at0 0 rfl;obtain⟨y0,y1,y2,y3,y4,y5,y6,y7,y8⟩:=id v1)
  | (go_at_call 181;refine(ds _ m1).mono ?_;rintro e w2 ⟨rfl,b2⟩;have i2:=i1.grown b2;have v2:=v1.grown b2;have m2:=m1.below b2;have x2:=x1.grown b2;have o2:=o1.trans (Only.Z5 b2);have q0:=x2.at0 0 rfl;have q1:=x2.at0 1 rfl;have k2:=i2.Zr;rw[hnx] at k2;obtain⟨z0,z1,z2,z3,z4,z5,z6,z7,z8⟩:=id v2;have kf:=i2.fz))
 refine ZT (fun W=>Z8 W L s/\ZL W b o T cs a/\ZP W w.heap.size t n k m g p r L.p who/\Only (L.and b) w W) ⟨m2,i2,v2,o2⟩ ?_
 clear b1 b2 i0 i1 i2 v1 v2 m1 m2 x1 x2 o1 o2 u0 q0 q1 k0 k1 k2 kf y0 z0 y1 z1 y2 z2 y3 z3 y4 z4 y5 z5 y6 z6 y7 z7 y8 z8
 rintro W ⟨m1,i1,v1,o1⟩
 apply Xy 4;. kernel_rfl
 iterate 3 (apply rV;. intros;apply ol;go_simp;exact gl)
 apply XW;. intro w' hg _;apply ol;have y:=(v1.dg hg).yy;go_simp;exact gl
 try simp only[pu,s0,s1]
 intro w5 hg _
 have m5:=m1.drew.below hg
 have i5:=i1.drew.grown hg
 have o5:=o1.og hg
 clear hg m1 i1 v1 o1
 go_wp2_with (go_at_call 154;refine(hc _ m5 i5.xg).mono ?_;rintro e w6 ⟨rfl,s6,WR,P⟩;obtain⟨l6,i6,q6⟩:=P.a;have i7:=i5.JL i6 (Gv.Zu q6) P.same;have o7:=o5.trans P.only;have q7:Same o 21 cs WR:=P.same.wide (by omega) (by omega);have k0:=i7.Zr;rw[show ({ a with gl:=l6 }:DV).nx=6 from hnx] at k0;have kf:=i7.fz)
 go_ret
 exact⟨rfl,s6,WR,_,P.m,o7,i7,q7,P.p,P.st,P.good,l6,q6,rfl⟩
set_option maxHeartbeats 400000 in
theorem Tn {w:World} {L:Loc} {s:Mm} {b o:Nat} {T:TypeId} {cs:Array Value} {t n k m:Nat} {g p r:Int} {a:DV} (h:Z8 w L s) (hi:ZL w b o T cs a) (who:Int) (hG:Good t n k m g p r) (hlen:ZI t n k m<=s.n) {x:Nat} {G:Int} (hh:YY a.nu x G) (hb:¬ L.has b) (hx:x<n) (hnx:a.nx=6) {σ c c':Nat} {lk lk':Nat->Nat} {F F':List Nat} {γ γ':Gv}
 (hc:∀ w1:World,Z8 w1 L s->At w1 b (o+14) T cs a.gl->Calls Tryz.prog 154 #[pP b (o+14),eV t n k m g p r L.p who] w1 fun e w'=>e=.returned (.bool true)/\∃ s' cs',Dc w1 L s b (o+14) T cs t n σ c lk F x who γ w' s' cs' c' lk' F' γ') :
 Calls Tryz.prog 179 #[pP b o,eV t n k m g p r L.p who] w fun e w'=>e=.returned (.bool true)/\Wh L b o T cs w w' (fun s' a'=>YH t n s' (σ+1) c' lk' F'/\(∃ v,s'=(s.by who).step (γ.at t x) v)/\γ'.good n c' lk' F' x/\∃ l',γ'.cells x l'/\a'={ a with gl:=l',nx:=7 }):=by
 have hw:=hh.call
 have ds:=fun(w':World) (m':Z8 w' L s)=>YA (x:=x) m' hG hlen who
 rw[decide_eq_true (by omega)] at ds
 have i0:=hi.grown (ZZ _ (.cells #[iV t,iV n,iV k,iV m,iV g,iV p,iV r,pP L.p 0,iV who] 27))
 have k0:=i0.Zr
 have k1:=i0.SQ
 rw[hnx] at k0
 clear hh
 obtain⟨hbv,hbb⟩:=nb h hi.lt
 have YK:¬ L.has (w.heap.size+1):=fun hh=>by have:=h.lt _ hh;omega
 have YR:¬ w.heap.size+1=b:=fun hh=>by have:=hi.lt;omega
 go_enter Tryz.func179,Tryz.ntmps179
 go_wp2_with (first
  | (go_at_call 180;refine(hw _).mono ?_;rintro e w1 ⟨rfl,b1⟩;have i1:=(i0.grown b1).grown (ZZ _ (.cells #[iV x,iV G] 213));have v1:=(ZP.new.grown b1).grown (ZZ _ (.cells #[iV x,iV G] 213));have m1:=((h.alloc _).below b1).alloc (.cells #[iV x,iV G] 213);have o1:Only (L.and b) w (w1.alloc (.cells #[iV x,iV G] 213)):=(((Only.refl _ _).alloc _).trans (Only.Z5 b1)).alloc (.cells #[iV x,iV G] 213);have x1:=At.new w1 213 [iV (x:Nat),iV G];have u0:=x1.at0 0 rfl;obtain⟨y0,y1,y2,y3,y4,y5,y6,y7,y8⟩:=id v1)
  | (go_at_call 181;refine(ds _ m1).mono ?_;rintro e w2 ⟨rfl,b2⟩;have i2:=i1.grown b2;have v2:=v1.grown b2;have m2:=m1.below b2;have x2:=x1.grown b2;have o2:=o1.trans (Only.Z5 b2);have q0:=x2.at0 0 rfl;have q1:=x2.at0 1 rfl;have k2:=i2.Zr;rw[hnx] at k2;obtain⟨z0,z1,z2,z3,z4,z5,z6,z7,z8⟩:=id v2;have kf:=i2.fz))
 refine ZT (fun W=>Z8 W L s/\ZL W b o T cs a/\ZP W w.heap.size t n k m g p r L.p who/\Only (L.and b) w W) ⟨m2,i2,v2,o2⟩ ?_
 clear b1 b2 i0 i1 i2 v1 v2 m1 m2 x1 x2 o1 o2 u0 q0 q1 k0 k1 k2 kf y0 z0 y1 z1 y2 z2 y3 z3 y4 z4 y5 z5 y6 z6 y7 z7 y8 z8
 rintro W ⟨m1,i1,v1,o1⟩
 apply Xy 4;. kernel_rfl
 iterate 3 (apply rV;. intros;apply ol;go_simp;exact gl)
 apply XW;. intro w' hg _;apply ol;have y:=(v1.dg hg).yy;go_simp;exact gl
 try simp only[pu,s0,s1]
 intro w5 hg _
 have m5:=m1.drew.below hg
 have i5:=i1.drew.grown hg
 have o5:=o1.og hg
 clear hg m1 i1 v1 o1
 go_wp2_with (go_at_call 154;refine(hc _ m5 i5.xg).mono ?_;rintro e w6 ⟨rfl,s6,WR,P⟩;obtain⟨l6,i6,q6⟩:=P.a;have i7:=i5.JL i6 (Gv.Zu q6) P.same;have o7:=o5.trans P.only;have q7:Same o 21 cs WR:=P.same.wide (by omega) (by omega);have k0:=i7.Zr;rw[show ({ a with gl:=l6 }:DV).nx=6 from hnx] at k0;have kf:=i7.fz)
 go_ret
 exact⟨rfl,s6,_,_,P.m.ZY hb _ _,o7.set _ _,i7.Zl 7,q7.set (by omega) _,P.p,P.st,P.good,l6,q6,rfl⟩
end
end Go.Proofs.YtgehjolndmgffaaGreat
