import Derived.Test.YtlolfmoolgenpaaGreatActGrid
import Derived.Test.YtlolfmoolgenpaaGreatActAwake
namespace Go.Proofs.YtlolfmoolgenpaaGreat
open Go.RowKit
structure Shelf (n c : Nat) (q : Q) (gen : Nat -> Nat) (ls : List Ox) (rs : List Rc) (D : Nat -> Nat -> Int) : Prop where
 len : rs.length <= c
 rg : ∀ (K : Nat) (r : Rc),rs[K]? = some r -> r.x < n /\ 1 <= r.g /\ r.g <= 65535 /\ 1 <= r.Z /\ r.Z <= 16
 live : ∀ (K : Nat) (r : Rc),rs[K]? = some r -> r.live = true -> ∃ o ∈ ls,o.x = r.x /\ o.g = r.g /\ o.Z = r.Z /\ o.own = r.own /\ ∀ j,j < o.Z -> q.dw (o.a + 1 + j) = D K j
 dead : ∀ (K : Nat) (r : Rc),rs[K]? = some r -> r.live = false -> r.g < gen r.x
 two : ∀ (i j : Nat) (r r' : Rc),i ≠ j -> rs[i]? = some r -> rs[j]? = some r' -> r.live = true -> r'.live = true -> r.x ≠ r'.x
 all : ∀ o ∈ ls,∃ (K : Nat) (r : Rc),rs[K]? = some r /\ r.live = true /\ r.x = o.x
 gb : ∀ x,gen x <= c + 1
 dz : ∀ K,rs.length <= K -> ∀ j,D K j = 0
theorem shelf0 (n : Nat) : Shelf n 0 (Q.new n) (fun _=>1) [] [] (fun _ _=>0) :=
 ⟨Nat.le_refl _,(fun _ _ h=>by simp at h),(fun _ _ h=>by simp at h),(fun _ _ h=>by simp at h),(fun _ _ _ _ _ h=>by simp at h),(fun _ h=>by cases h),(fun _=>Nat.le_refl _),fun _ _ _=>rfl⟩
theorem packH_inj {x g x' g' : Nat} (h1 : x <= 65535) (h2 : g <= 65535) (h3 : x' <= 65535) (h4 : g' <= 65535) (e : packH x g = packH x' g') : x = x' /\ g = g':=by
 rw [packH_is x g h1 h2,packH_is x' g' h3 h4] at e
 omega
section
variable {t n k m nx nx' c : Nat} {q q' : Q} {gen gen' : Nat -> Nat} {ls ls' : List Ox} {rs : List Rc} {D : Nat -> Nat -> Int} {X : Xa} {E H V : Int} {K : Nat} {r : Rc}
theorem Shelf.keep (S : Shelf n c q gen ls rs D) (h : ∀ o ∈ ls,∀ j,j < o.Z -> q'.dw (o.a + 1 + j) = q.dw (o.a + 1 + j)) : Shelf n (c + 1) q' gen ls rs D :=
 ⟨Nat.le_succ_of_le S.len,S.rg,fun K r e l=>by
  obtain ⟨o,ho,h1,h2,h3,h4,h5⟩:=S.live K r e l
  exact ⟨o,ho,h1,h2,h3,h4,fun j hj=>(h o ho j hj).trans (h5 j hj)⟩,S.dead,S.two,S.all,fun x=>Nat.le_succ_of_le (S.gb x),S.dz⟩
theorem Shelf.made (S : Shelf n c q gen ls rs D) (C : Tame t n k m q nx gen ls) {o : Ox} (C' : Tame t n k m q' nx' gen (o :: ls)) (hF : q.F = o.x :: q'.F) (h0 : ∀ j,1 <= j -> j <= o.Z -> q'.dw (o.a + j) = 0) (hk : Keeps q q' ls) (b : Nat) : Shelf n (c + 1) q' gen (o :: ls) (rs ++ [⟨o.x,o.g,o.Z,o.own,true,b⟩]) D:=by
 have ok:=C'.ok o (by simp)
 have fresh : ∀ (j : Nat) (r : Rc),rs[j]? = some r -> r.live = true -> r.x ≠ o.x:=by
  intro j r h hl e
  obtain ⟨o',ho',hx,_⟩:=S.live j r h hl
  have:=(C.li o' ho').nf
  rw [hF,hx,e] at this
  exact this (by simp)
 refine ⟨by have:=S.len;simp;omega,fun K r e=>?_,fun K r e l=>?_,fun K r e l=>?_,fun i j r r' hij e e' l l'=>?_,fun o' ho'=>?_,fun x=>Nat.le_succ_of_le (S.gb x),fun K hK j=>S.dz K (by simp at hK;omega) j⟩
 · rcases getMore e with e | ⟨_,rfl⟩
   · exact S.rg K r e
   · exact ⟨ok.x1,ok.g1,ok.g2,ok.z1,ok.z2⟩
 · rcases getMore e with e | ⟨rfl,rfl⟩
   · obtain ⟨o',ho',h1,h2,h3,h4,h5⟩:=S.live K r e l
     refine ⟨o',by simp [ho'],h1,h2,h3,h4,fun j hj=>?_⟩
     rw [<- h5 j hj,Nat.add_assoc]
     exact hk o' ho' (1 + j) (by omega) (by omega)
   · refine ⟨o,by simp,rfl,rfl,rfl,rfl,fun j hj=>?_⟩
     rw [S.dz _ (Nat.le_refl _),Nat.add_assoc]
     exact h0 (1 + j) (by omega) (by omega)
 · rcases getMore e with e | ⟨_,rfl⟩
   · exact S.dead K r e l
   · cases l
 · rcases getMore e with e | ⟨hi,rfl⟩ <;> rcases getMore e' with e' | ⟨hj,rfl⟩
   · exact S.two i j r r' hij e e' l l'
   · exact fresh i r e l
   · exact fun h=>fresh j r' e' l' h.symm
   · omega
 · rcases List.mem_cons.1 ho' with rfl | ho'
   · exact ⟨rs.length,⟨o'.x,o'.g,o'.Z,o'.own,true,b⟩,by simp,rfl,rfl⟩
   · obtain ⟨K,r,e,l,hx⟩:=S.all o' ho'
     exact ⟨K,r,by rw [List.getElem?_append_left (List.getElem?_eq_some_iff.1 e).1];exact e,l,hx⟩
theorem Shelf.gone {l1 l2 : List Ox} {o : Ox} (S : Shelf n c q gen (l1 ++ o :: l2) rs D) (C : Tame t n k m q nx gen (l1 ++ o :: l2)) (e : rs[K]? = some r) (hl : r.live = true) (hx : o.x = r.x) (hg : o.g = r.g) (hk : Keeps q q' (l1 ++ l2)) : Shelf n (c + 1) q' (upd gen o.x (o.g + 1)) (l1 ++ l2) (rs.set K { r with live:=false }) D:=by
 have ho : o ∈ l1 ++ o :: l2:=by simp
 have hgn:=C.gn o ho
 have sub : ∀ o',o' ∈ l1 ++ l2 -> o' ∈ l1 ++ o :: l2:=fun o' h=>by rcases List.mem_append.1 h with h | h <;> simp [h]
 have hap : ∀ o',o' ∈ l1 ++ l2 -> o.apart o':=(List.pairwise_cons.1 ((List.pairwise_middle Ox.apart_symm).1 C.pw)).1
 refine ⟨by have:=S.len;simp;omega,fun K' r' e'=>?_,fun K' r' e' l'=>?_,fun K' r' e' l'=>?_,fun i j r1 r2 hij e1 e2 l1' l2'=>?_,fun o' ho'=>?_,fun x=>?_,fun K' hK j=>S.dz K' (by simpa using hK) j⟩
 · rcases getSet e e' with ⟨_,e'⟩ | ⟨_,rfl⟩
   · exact S.rg K' r' e'
   · exact S.rg K r e
 · rcases getSet e e' with ⟨hne,e'⟩ | ⟨_,rfl⟩
   · obtain ⟨o',ho',h1,h2,h3,h4,h5⟩:=S.live K' r' e' l'
     have hxx:=S.two K' K r' r hne e' e l' hl
     have hm : o' ∈ l1 ++ l2:=by
      rcases List.mem_append.1 ho' with h | h
      · simp [h]
      · rcases List.mem_cons.1 h with rfl | h
        · exact absurd (h1.symm.trans hx) hxx
        · simp [h]
     refine ⟨o',hm,h1,h2,h3,h4,fun j hj=>?_⟩
     rw [<- h5 j hj,Nat.add_assoc]
     exact hk o' hm (1 + j) (by omega) (by omega)
   · cases l'
 · rcases getSet e e' with ⟨_,e'⟩ | ⟨_,rfl⟩
   · have hd:=S.dead K' r' e' l'
     by_cases ex : r'.x = o.x
     · rw [ex,upd_same];rw [ex,hgn] at hd;omega
     · rw [upd_other _ _ _ _ ex];exact hd
   · show r.g < upd gen o.x (o.g + 1) r.x
     rw [<- hx,upd_same];omega
 · rcases getSet e e1 with ⟨_,e1⟩ | ⟨_,rfl⟩
   · rcases getSet e e2 with ⟨_,e2⟩ | ⟨_,rfl⟩
     · exact S.two i j r1 r2 hij e1 e2 l1' l2'
     · cases l2'
   · cases l1'
 · obtain ⟨K',r',e',l',hx'⟩:=S.all o' (sub o' ho')
   have hne : K ≠ K':=fun h=>by
    subst h
    rw [e] at e'
    cases e'
    exact (hap o' ho').1 (hx.trans hx')
   exact ⟨K',r',by rw [List.getElem?_set_ne hne];exact e',l',hx'⟩
 · have:=S.gb x
   have:=S.gb o.x
   unfold upd
   split <;> omega
theorem Shelf.laid (S : Shelf n c q gen ls rs D) (C : Tame t n k m q nx gen ls) (e : rs[K]? = some r) (hl : r.live = true) {o : Ox} (ho : o ∈ ls) (hx : o.x = r.x) {j : Nat} (hj : j < o.Z) (v : Int) : Shelf n (c + 1) { q with dw:=upd q.dw (o.a + 1 + j) v } gen ls rs (fun K' j'=>if K' = K /\ j' = j then v else D K' j'):=by
 have hlt : K < rs.length:=(List.getElem?_eq_some_iff.1 e).1
 refine ⟨Nat.le_succ_of_le S.len,S.rg,fun K' r' e' l'=>?_,S.dead,S.two,S.all,fun x=>Nat.le_succ_of_le (S.gb x),fun K' hK j'=>?_⟩
 · obtain ⟨o',ho',h1,h2,h3,h4,h5⟩:=S.live K' r' e' l'
   refine ⟨o',ho',h1,h2,h3,h4,fun j' hj'=>?_⟩
   show upd q.dw _ _ _ = _
   by_cases ek : K' = K
   · subst ek
     rw [e] at e'
     cases e'
     obtain rfl:=C.uniq ho ho' (h1.trans hx.symm)
     by_cases ej : j' = j
     · subst ej;rw [upd_same];simp
     · rw [upd_other _ _ _ _ (by omega),h5 j' hj'];simp [ej]
   · have hxx:=S.two K' K r' r ek e' e l' hl
     have hne : o' ≠ o:=fun h=>hxx (h1.symm.trans ((congrArg Ox.x h).trans hx))
     have hap : o.apart o':=by
      obtain ⟨l1,l2,rfl⟩:=List.append_of_mem ho
      have hap : ∀ o',o' ∈ l1 ++ l2 -> o.apart o':=(List.pairwise_cons.1 ((List.pairwise_middle Ox.apart_symm).1 C.pw)).1
      refine hap o' ?_
      rcases List.mem_append.1 ho' with h | h
      · simp [h]
      · rcases List.mem_cons.1 h with h | h
        · exact absurd h hne
        · simp [h]
     rw [upd_other _ _ _ _ (fun e=>Ox.words (C.ok o ho) (C.ok o' ho') hap (j:=1 + j) (j':=1 + j') (by omega) (by omega) (by omega)),h5 j' hj']
     simp [ek]
 · show (if K' = K /\ j' = j then v else D K' j') = 0
   rw [if_neg (by omega)]
   exact S.dz K' hK j'
theorem Shelf.none (S : Shelf n c q gen ls rs D) (C : Tame t n k m q nx gen ls) (hn : n <= 65535) (hw : rs = [] \/ ∃ (K : Nat) (r : Rc),rs[K]? = some r /\ X.nu = packH r.x r.g /\ (r.live = false \/ r.own ≠ X.own)) (hk : X.kd ≠ 1) (O : Out k X q nx gen ls E H V q' nx' gen' ls') : E = 3 /\ H = 0 /\ V = 0 /\ q' = q /\ nx' = nx /\ gen' = gen /\ ls' = ls:=by
 have hd : ∀ o ∈ ls,X.nu = packH o.x o.g -> o.own ≠ X.own:=by
  intro o ho he
  rcases hw with rfl | ⟨K,r,e,hu,hc⟩
  · obtain ⟨K,r,e,_⟩:=S.all o ho
    simp at e
  · obtain ⟨g1,g2,g3,_⟩:=S.rg K r e
    have ok:=C.ok o ho
    have x1:=ok.x1
    obtain ⟨hx,hg⟩:=packH_inj (by omega) g3 (by omega) ok.g2 (hu.symm.trans he)
    rcases hc with hc | hc
    · have:=S.dead K r e hc
      have:=C.gn o ho
      rw [<- hx] at this
      omega
    · cases hl : r.live with
      | false =>
       have:=S.dead K r e hl
       have:=C.gn o ho
       rw [<- hx] at this
       omega
      | true =>
       obtain ⟨o1,ho1,h1,h2,h3,h4,_⟩:=S.live K r e hl
       obtain rfl:=C.uniq ho1 ho (hx.symm.trans h1.symm)
       rw [h4];exact hc
 cases O with
 | size h'=>exact absurd h' hk
 | empty h'=>exact absurd h' hk
 | full h'=>exact absurd h' hk
 | made h'=>exact absurd h' hk
 | dead h' hd'=>exact ⟨rfl,rfl,rfl,rfl,rfl,rfl,rfl⟩
 | gone h' l1 o l2 e hh ho=>exact absurd ho (hd o (by rw [e];simp) hh)
 | index h' o ho hh hw=>exact absurd hw (hd o ho hh)
 | read h' o ho hh hw=>exact absurd hw (hd o ho hh)
 | other h' o ho hh hw=>exact absurd hw (hd o ho hh)
 | laid h' o ho hh hw=>exact absurd hw (hd o ho hh)
theorem Shelf.find (S : Shelf n c q gen ls rs D) (C : Tame t n k m q nx gen ls) (hn : n <= 65535) (e : rs[K]? = some r) (hl : r.live = true) (hu : X.nu = packH r.x r.g) (hw : r.own = X.own) : ∃ o ∈ ls,o.x = r.x /\ o.g = r.g /\ o.Z = r.Z /\ X.nu = packH o.x o.g /\ o.own = X.own /\ (∀ j,j < o.Z -> q.dw (o.a + 1 + j) = D K j) /\ ∀ o' ∈ ls,X.nu = packH o'.x o'.g -> o' = o:=by
 obtain ⟨o,ho,h1,h2,h3,h4,h5⟩:=S.live K r e hl
 refine ⟨o,ho,h1,h2,h3,by rw [h1,h2];exact hu,h4.trans hw,h5,fun o' ho' he=>?_⟩
 obtain ⟨g1,g2,g3,_⟩:=S.rg K r e
 have ok:=C.ok o' ho'
 have x1:=ok.x1
 obtain ⟨hx,hg⟩:=packH_inj (by omega) g3 (by omega) ok.g2 (hu.symm.trans he)
 exact C.uniq ho ho' (hx.symm.trans h1.symm)
theorem Shelf.goes (S : Shelf n c q gen ls rs D) (C : Tame t n k m q nx gen ls) (hn : n <= 65535) (e : rs[K]? = some r) (hl : r.live = true) (hu : X.nu = packH r.x r.g) (hw : r.own = X.own) (hk : X.kd = 2) (O : Out k X q nx gen ls E H V q' nx' gen' ls') : E = 0 /\ H = 0 /\ V = 0 /\ Shelf n (c + 1) q' gen' ls' (rs.set K { r with live:=false }) D:=by
 obtain ⟨o,ho,h1,h2,h3,h4,h5,h6,h7⟩:=S.find C hn e hl hu hw
 cases O with
 | size h'=>omega
 | empty h'=>omega
 | full h'=>omega
 | made h'=>omega
 | dead h' hd=>exact absurd h5 (hd o ho h4)
 | gone h' l1 o1 l2 el hh ho' q' hF hkp =>
  subst el
  obtain rfl:=h7 o1 (by simp) hh
  exact ⟨rfl,rfl,rfl,S.gone C e hl h1 h2 hkp⟩
 | index h'=>omega
 | read h'=>omega
 | other h'=>omega
 | laid h'=>omega
theorem Shelf.idx (S : Shelf n c q gen ls rs D) (C : Tame t n k m q nx gen ls) (hn : n <= 65535) (e : rs[K]? = some r) (hl : r.live = true) (hu : X.nu = packH r.x r.g) (hw : r.own = X.own) (hk : 3 <= X.kd) (hi : ¬ (0 <= X.ix /\ X.ix < r.Z)) (O : Out k X q nx gen ls E H V q' nx' gen' ls') : E = 4 /\ H = 0 /\ V = 0 /\ q' = q /\ nx' = nx /\ gen' = gen /\ ls' = ls:=by
 obtain ⟨o,ho,h1,h2,h3,h4,h5,h6,h7⟩:=S.find C hn e hl hu hw
 cases O with
 | size h'=>omega
 | empty h'=>omega
 | full h'=>omega
 | made h'=>omega
 | dead h' hd=>exact absurd h5 (hd o ho h4)
 | gone h'=>omega
 | index h'=>exact ⟨rfl,rfl,rfl,rfl,rfl,rfl,rfl⟩
 | read h' o' hm hh ho' j hj hi'=>obtain rfl:=h7 o' hm hh;exact absurd ⟨by omega,by omega⟩ hi
 | other h' o' hm hh ho' j hj hi'=>obtain rfl:=h7 o' hm hh;exact absurd ⟨by omega,by omega⟩ hi
 | laid h' o' hm hh ho' j hj hi'=>obtain rfl:=h7 o' hm hh;exact absurd ⟨by omega,by omega⟩ hi
theorem Shelf.word (S : Shelf n c q gen ls rs D) (C : Tame t n k m q nx gen ls) (hn : n <= 65535) (e : rs[K]? = some r) (hl : r.live = true) (hu : X.nu = packH r.x r.g) (hw : r.own = X.own) (hk : 3 <= X.kd) {j : Nat} (hj : X.ix = j) (hi : j < r.Z) (O : Out k X q nx gen ls E H V q' nx' gen' ls') :
 H = 0 /\ V = D K j /\ ((X.kd = 3 /\ E = 0 /\ Shelf n (c + 1) q' gen' ls' rs D) \/ (X.kd = 5 /\ D K j ≠ X.ol /\ E = 8 /\ Shelf n (c + 1) q' gen' ls' rs D) \/ (X.kd ≠ 3 /\ (X.kd = 5 -> D K j = X.ol) /\ E = 0 /\ Shelf n (c + 1) q' gen' ls' rs (fun K' j'=>if K' = K /\ j' = j then X.vl else D K' j'))):=by
 obtain ⟨o,ho,h1,h2,h3,h4,h5,h6,h7⟩:=S.find C hn e hl hu hw
 have hjo : j < o.Z:=by omega
 obtain ⟨rfl,hV,rfl,rfl,rfl,hc⟩:=aw_reach O h7 hk ho h4 h5 hj hjo
 rw [h6 j hjo] at hV
 refine ⟨rfl,hV,?_⟩
 rcases hc with ⟨a,b,rfl⟩ | ⟨a,b,c',rfl⟩ | ⟨a,b,c',rfl⟩
 · exact Or.inl ⟨a,b,S.keep fun _ _ _ _=>rfl⟩
 · exact Or.inr (Or.inl ⟨a,by rw [<- hV];exact b,c',S.keep fun _ _ _ _=>rfl⟩)
 · exact Or.inr (Or.inr ⟨a,fun h=>by rw [<- hV];exact b h,c',S.laid C e hl ho h1 hjo _⟩)
end
end Go.Proofs.YtlolfmoolgenpaaGreat
