import Derived.Test.YtlolfmoolgenpaaGreatActAwake
import Derived.Test.YtlolfmoolgenpaaGreatActArgs
namespace Go.Proofs.YtlolfmoolgenpaaGreat
open Go.RowKit
section
variable {w0 w : World} {L : Loc} {bE t n k m σ nx : Nat} {s : Mm} {q : Q} {gen : Nat -> Nat} {ls : List Ox}
theorem own_no (f : Hut w0 w L bE t n k m s σ q nx gen ls) (a : FarmApart w0 L bE t n k m 100) (X : Xa) (hm : X.may = true) (hz : Fit X.sz) (hu : Wd X.nu) (hg : ∀ o ∈ ls,o.g < 100) (hσ : σ + 500 < 1000000) (h1 : X.kd ≠ 1) (hd : ∀ o ∈ ls,X.nu = packH o.x o.g -> o.own ≠ X.own) :
 Calls Tryz.prog 12 #[.agg #[.int .i64 t,.int .i64 n,.int .i64 k,.int .i64 m,.int .i64 100,.int .i64 600,.int .i64 3,.pointer (some ⟨L.p,0,none⟩),.int .i64 0],X.v] w fun e w'=>∃ (St : Int) (s' : Mm) (σ' : Nat),e = .returned (.agg #[.int .i64 3,.int .u64 0,.int .i64 0,.int .i64 St]) /\ σ' <= σ + 500 /\ Hut w0 w' L bE t n k m s' σ' q nx gen ls /\ Only L.has w w':=by
 obtain ⟨E,H,V,q',nx',gen',ls',O,c⟩:=f.do a X hm hz hu hg hσ
 refine (c w f).mono ?_
 rintro e w' ⟨St,s',σ',rfl,h2,h3,h4,h5,f',o'⟩
 cases O with
 | size h'=>exact absurd h' h1
 | empty h'=>exact absurd h' h1
 | full h'=>exact absurd h' h1
 | made h'=>exact absurd h' h1
 | dead h' hd'=>exact ⟨St,s',σ',rfl,h2,f',o'⟩
 | gone h' l1 o l2 e hh ho=>exact absurd ho (hd o (by rw [e];simp) hh)
 | index h' o ho hh hw=>exact absurd hw (hd o ho hh)
 | read h' o ho hh hw=>exact absurd hw (hd o ho hh)
 | other h' o ho hh hw=>exact absurd hw (hd o ho hh)
 | laid h' o ho hh hw=>exact absurd hw (hd o ho hh)
theorem own_yes (f : Hut w0 w L bE t n k m s σ q nx gen ls) (a : FarmApart w0 L bE t n k m 100) (X : Xa) (hm : X.may = true) (hz : Fit X.sz) (hu : Wd X.nu) (hg : ∀ o ∈ ls,o.g < 100) (hσ : σ + 500 < 1000000) (h1 : 2 <= X.kd) {o : Ox} (ho : o ∈ ls) (hh : X.nu = packH o.x o.g) (hw : o.own = X.own) (hi : X.ix = 0) (hol : X.ol = 0) (h0 : q.dw (o.a + 1) = 0) (hun : ∀ o' ∈ ls,X.nu = packH o'.x o'.g -> o' = o) :
 Calls Tryz.prog 12 #[.agg #[.int .i64 t,.int .i64 n,.int .i64 k,.int .i64 m,.int .i64 100,.int .i64 600,.int .i64 3,.pointer (some ⟨L.p,0,none⟩),.int .i64 0],X.v] w fun e w'=>∃ (V St : Int) (s' : Mm) (σ' : Nat) (q' : Q) (gen' : Nat -> Nat) (ls' : List Ox),e = .returned (.agg #[.int .i64 0,.int .u64 0,.int .i64 V,.int .i64 St]) /\ σ' <= σ + 500 /\ Hut w0 w' L bE t n k m s' σ' q' nx gen' ls' /\ Only L.has w w' /\ (∀ o' ∈ ls',o' ∈ ls) /\ (∀ o' ∈ ls,o'.x ≠ o.x -> o' ∈ ls' /\ q'.dw (o'.a + 1) = q.dw (o'.a + 1)):=by
 obtain ⟨E,H,V,q',nx',gen',ls',O,c⟩:=f.do a X hm hz hu hg hσ
 refine (c w f).mono ?_
 rintro e w' ⟨St,s',σ',rfl,h2,h3,h4,h5,f',o'⟩
 have z1:=(f.tm.ok o ho).z1
 cases O with
 | size h'=>omega
 | empty h'=>omega
 | full h'=>omega
 | made h'=>omega
 | dead h' hd'=>exact absurd hw (hd' o ho hh)
 | gone h' l1 o1 l2 e hh' ho' q' hF hk =>
  obtain rfl:=hun o1 (by rw [e];simp) hh'
  subst e
  refine ⟨0,St,s',σ',_,_,_,rfl,h2,f',o',fun o' h=>?_,fun o' h hx=>?_⟩
  · rcases List.mem_append.1 h with h | h <;> simp [h]
  · have : o' ∈ l1 ++ l2:=by
     rcases List.mem_append.1 h with h | h
     · simp [h]
     · rcases List.mem_cons.1 h with rfl | h
       · exact absurd rfl hx
       · simp [h]
    exact ⟨this,hk o' this 1 (Nat.le_refl _) (f'.tm.ok o' this).z1⟩
 | index h' o1 ho1 hh1 hw1 hi1 =>
  obtain rfl:=hun o1 ho1 hh1
  exact absurd ⟨by omega,by omega⟩ hi1
 | read h' o1 ho1 hh1 hw1 j=>exact ⟨_,St,s',σ',_,_,_,rfl,h2,f',o',fun _ h=>h,fun _ h _=>⟨h,rfl⟩⟩
 | other h' o1 ho1 hh1 hw1 j hj hjz hr hv =>
  obtain rfl:=hun o1 ho1 hh1
  obtain rfl : j = 0:=by omega
  exact absurd (h0.trans hol.symm) hv
 | laid h' o1 ho1 hh1 hw1 j hj hjz hr hv =>
  obtain rfl:=hun o1 ho1 hh1
  obtain rfl : j = 0:=by omega
  refine ⟨_,St,s',σ',_,_,_,rfl,h2,f',o',fun _ h=>h,fun o' h hx=>⟨h,?_⟩⟩
  show upd q.dw _ _ _ = _
  obtain ⟨l1,l2,e⟩:=List.append_of_mem ho
  have pw:=f.tm.pw
  rw [e] at pw
  have hap : ∀ o',o' ∈ l1 ++ l2 -> o1.apart o':=(List.pairwise_cons.1 ((List.pairwise_middle Ox.apart_symm).1 pw)).1
  have hm' : o' ∈ l1 ++ l2:=by
   rw [e] at h
   rcases List.mem_append.1 h with h | h
   · simp [h]
   · rcases List.mem_cons.1 h with rfl | h
     · exact absurd rfl hx
     · simp [h]
  rw [upd_other _ _ _ _ (fun e=>Ox.words (f.tm.ok o1 ho) (f.tm.ok o' h) (hap o' hm') (j:=1) (j':=1) z1 (f.tm.ok o' h).z1 (by omega))]
theorem own_make {x : Nat} {F : List Nat} (f : Hut w0 w L bE t n k m s σ q nx gen ls) (a : FarmApart w0 L bE t n k m 100) (X : Xa) (hm : X.may = true) (hu : Wd X.nu) (hg : ∀ o ∈ ls,o.g < 100) (hσ : σ + 500 < 1000000) (h1 : X.kd = 1) (z1 : 1 <= X.sz) (z2 : X.sz <= 16) (hF : q.F = x :: F) (hk : nx ≠ k) :
 Calls Tryz.prog 12 #[.agg #[.int .i64 t,.int .i64 n,.int .i64 k,.int .i64 m,.int .i64 100,.int .i64 600,.int .i64 3,.pointer (some ⟨L.p,0,none⟩),.int .i64 0],X.v] w fun e w'=>∃ (St : Int) (s' : Mm) (σ' : Nat) (o : Ox) (q' : Q) (nx' : Nat),e = .returned (.agg #[.int .i64 0,.int .u64 (packH x (gen x)),.int .i64 0,.int .i64 St]) /\ σ' <= σ + 500 /\ o.x = x /\ o.g = gen x /\ X.sz = o.Z /\ o.own = X.own /\ q'.F = F /\ nx' <= nx + 1 /\ q'.dw (o.a + 1) = 0 /\ (∀ o' ∈ ls,q'.dw (o'.a + 1) = q.dw (o'.a + 1)) /\ Hut w0 w' L bE t n k m s' σ' q' nx' gen (o :: ls) /\ Only L.has w w':=by
 obtain ⟨E,H,V,q',nx',gen',ls',O,c⟩:=f.do a X hm ⟨by omega,by omega⟩ hu hg hσ
 refine (c w f).mono ?_
 rintro e w' ⟨St,s',σ',rfl,h2,h3,h4,h5,f',o'⟩
 obtain ⟨o,eE,eH,eV,rfl,rfl,hx,hg',hZ,ho,hF',hn,h0,hkp⟩:=aw_make O h1 (by unfold classOf;omega) hF hk
 have ok:=f'.tm.ok o (by simp)
 exact ⟨St,s',σ',o,q',nx',by rw [eE,eH,eV],h2,hx,hg',hZ,ho,hF',hn,h0 1 (Nat.le_refl _) ok.z1,fun o1 h1=>hkp o1 h1 1 (Nat.le_refl _) (f.tm.ok o1 h1).z1,f',o'⟩
end
theorem wd00 : Wd 0:=⟨by decide,by decide⟩
theorem wd01 : Wd 65536:=⟨by decide,by decide⟩
theorem wd11 : Wd 65537:=⟨by decide,by decide⟩
theorem own_g1 {o : Ox} (hg : o.g = 1) : ∀ o' ∈ [o],o'.g < 100:=fun o' h=>by rw [List.mem_singleton.1 h,hg];decide
theorem own_g2 {o o2 : Ox} (hg : o.g = 1) (hg2 : o2.g = 1) : ∀ o' ∈ [o2,o],o'.g < 100:=fun o' h=>by
 rcases List.mem_cons.1 h with rfl | h
 · rw [hg2];decide
 · exact own_g1 hg o' h
theorem packH_11 : packH ((1 : Nat) : Int) ((1 : Nat) : Int) = 65537:=packH_is 1 1 (by decide) (by decide)
section
variable {o1 o2 : Ox}
theorem own_n1 (hx : o1.x = 0) (hg : o1.g = 1) : (65536 : Int) = packH o1.x o1.g:=by rw [hx,hg];exact packH_01.symm
theorem own_n2 (hx : o2.x = 1) (hg : o2.g = 1) : (65537 : Int) = packH o2.x o2.g:=by rw [hx,hg];exact packH_11.symm
theorem own_p (ho1 : o1.own = false) (hx2 : o2.x = 1) (hg2 : o2.g = 1) : ∀ o ∈ [o2,o1],(65536 : Int) = packH o.x o.g -> o.own ≠ true:=fun o h e=>by
 rcases List.mem_cons.1 h with rfl | h
 · rw [<- own_n2 hx2 hg2] at e;omega
 · rw [List.mem_singleton.1 h,ho1];decide
theorem own_q (hx1 : o1.x = 0) (hg1 : o1.g = 1) (hx2 : o2.x = 1) (hg2 : o2.g = 1) (ho2 : o2.own = true) : ∀ o ∈ [o2,o1],(65537 : Int) = packH o.x o.g -> o.own ≠ false:=fun o h e=>by
 rcases List.mem_cons.1 h with rfl | h
 · rw [ho2];decide
 · rw [List.mem_singleton.1 h,<- own_n1 hx1 hg1] at e;omega
theorem own_u2 (hx1 : o1.x = 0) (hg1 : o1.g = 1) : ∀ o ∈ [o2,o1],(65537 : Int) = packH o.x o.g -> o = o2:=fun o h e=>by
 rcases List.mem_cons.1 h with h | h
 · exact h
 · rw [List.mem_singleton.1 h,<- own_n1 hx1 hg1] at e;omega
theorem own_u1 (hx2 : o2.x = 1) (hg2 : o2.g = 1) : ∀ o ∈ [o2,o1],(65536 : Int) = packH o.x o.g -> o = o1:=fun o h e=>by
 rcases List.mem_cons.1 h with rfl | h
 · rw [<- own_n2 hx2 hg2] at e;omega
 · exact List.mem_singleton.1 h
end
theorem good15b : Good 1 4 4 40 100 600 3:=⟨by decide,by decide,by decide,by decide,by decide,by decide,by decide,by decide,by decide,by decide,by decide,by decide,by decide,by decide⟩
theorem kind4 (z : Int) : ∃ k : Int,2 + z % 4 = k /\ 2 <= k /\ k <= 5:=⟨_,rfl,by omega,by omega⟩
theorem size15 (z : Int) : ∃ y : Int,bits .and .i64 z 15 = y /\ 0 <= y /\ y <= 15:=by
 obtain ⟨y,h1,h2,h3⟩:=lowAt z 15 4 0 (by decide) (by decide)
 refine ⟨y,by rw [<- h1];omega,by omega,?_⟩
 have : ((y : Nat) : Int) <= ((0 : Nat) : Int) + 15:=h3
 omega
end Go.Proofs.YtlolfmoolgenpaaGreat
