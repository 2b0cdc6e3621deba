import Derived.Test.YtmnnhjhhhfabiaaGreatCompAwakeA
import Derived.Test.YtmnnhjhhhfabiaaGreatCompGnd
namespace Go.Proofs.YtmnnhjhhhfabiaaGreat
open Go.RowKit
section
section
variable {t n k m : Nat} {sp tr : Int} {s : Mm} {σ nx : Nat} {q : Q} {gen : Nat -> Nat}
end
end
section
structure PX where
 T : TypeId
 b : Nat
 cap : Nat
 l : List Value
structure PX.at (w0 w : World) (L : Loc) (E : Nat) (r : PX) : Prop where
 rw : Rw w r.T r.b r.cap r.l
 nl : ¬ L.has r.b
 w0 : w0.heap.size <= r.b
 ne : r.b ≠ E
structure Sc (p : Int) (w0 w : World) (L : Loc) (E t n k m : Nat) (who : Int) (s : Mm) (rs : List PX) : Prop where
 mm : Z9 w L s
 e : w.heap[E]? = some (.cells #[iV t,iV n,iV k,iV m,iV 100,iV p,iV 3,pP L.p 0,iV who] 28 (0,0))
 b : Below w0.heap.size w0 w
 rr : ∀ r ∈ rs,r.at w0 w L E
 nd : rs.Pairwise (fun r r'=>r.b ≠ r'.b)
 a : wY w0 L E
section
variable {p : Int} {w0 w w' : World} {L : Loc} {E t n k m : Nat} {who : Int} {s s' : Mm} {rs : List PX}
theorem PX.at.grown {r : PX} (h : r.at w0 w L E) (g : Below w.heap.size w w') : r.at w0 w' L E:=⟨h.rw.grown g,h.nl,h.w0,h.ne⟩
theorem PX.at.only {r : PX} {S : Nat -> Prop} (h : r.at w0 w L E) (o : Only S w w') (hs : ¬ S r.b) : r.at w0 w' L E:=⟨h.rw.only o hs,h.nl,h.w0,h.ne⟩
theorem Sc.v (h : Sc p w0 w L E t n k m who s rs) : ZV w E t n k m 100 p 3 L.p who :=
 ⟨ZW h.e rfl,ZW h.e rfl,ZW h.e rfl,ZW h.e rfl,ZW h.e rfl,ZW h.e rfl,ZW h.e rfl,ZW h.e rfl,ZW h.e rfl⟩
theorem Sc.xY (f : Sc p w0 w L E t n k m who s rs) : E < w.heap.size:=WO f.e
theorem Sc.grown (f : Sc p w0 w L E t n k m who s rs) (g : Below w.heap.size w w') : Sc p w0 w' L E t n k m who s rs :=
 ⟨f.mm.below g,(g.block _ f.xY).trans f.e,grow f.b g,fun r hr=>(f.rr r hr).grown g,f.nd,f.a⟩
theorem Sc.drew (f : Sc p w0 w L E t n k m who s rs) : Sc p w0 w.drew L E t n k m who s rs:=f.grown ((Below.refl _ _).drew)
theorem Sc.mem (f : Sc p w0 w L E t n k m who s rs) (o : Only L.has w w') (mm : Z9 w' L s') : Sc p w0 w' L E t n k m who s' rs :=
 ⟨mm,(o.block _ f.xY f.a.e).trans f.e,PM f.b o f.a.l0,fun r hr=>(f.rr r hr).only o (f.rr r hr).nl,f.nd,f.a⟩
theorem Sc.own (f : Sc p w0 w L E t n k m who s rs) {b : Nat} (o : Only (fun x=>x = b) w w') (h0 : w0.heap.size <= b) (he : b ≠ E) (hl : ¬ L.has b) (hr : ∀ r ∈ rs,r.b ≠ b) : Sc p w0 w' L E t n k m who s rs :=
 ⟨f.mm.only o (fun _ hx e=>hl (e ▸ hx)),(o.block _ f.xY (fun e=>he e.symm)).trans f.e,Jh f.b o (fun _ e=>e ▸ h0),fun r h=>(f.rr r h).only o (hr r h),f.nd,f.a⟩
theorem Sc.Z4 (f : Sc p w0 w L E t n k m who s rs) {b : Nat} (h0 : w0.heap.size <= b) (he : b ≠ E) (hl : ¬ L.has b) (hr : ∀ r ∈ rs,r.b ≠ b) (i : Nat) (v : Value) : Sc p w0 (w.setCell ⟨b,i,none⟩ v) L E t n k m who s rs :=
 f.own (Only.setCell (a:=⟨b,i,none⟩) (Only.refl (fun k=>k = b) _) (fun _=>rfl) _) h0 he hl hr
theorem Sc.but {K : Nat -> Prop} (f : Sc p w0 w L E t n k m who s rs) (o : Only (fun y=>¬ K y) w w') (mm : Z9 w' L s') (hK : ∀ y,y < w0.heap.size \/ y = E \/ (∃ r ∈ rs,y = r.b) -> K y) : Sc p w0 w' L E t n k m who s' rs :=
 ⟨mm,(o.block _ f.xY (fun hh=>hh (hK _ (Or.inr (Or.inl rfl))))).trans f.e,Jh f.b o (fun x hx=>by
  have : ¬ x < w0.heap.size:=fun e=>hx (hK _ (Or.inl e))
  omega),fun r hr=>(f.rr r hr).only o (fun hh=>hh (hK _ (Or.inr (Or.inr ⟨r,hr,rfl⟩)))),f.nd,f.a⟩
theorem Sc.lt {r : PX} (f : Sc p w0 w L E t n k m who s rs) (h : r ∈ rs) : r.b < w.heap.size:=(f.rr r h).rw.lt
theorem Sc.new (f : Sc p w0 w L E t n k m who s rs) {D : Nat} (h : w.heap.size <= D) : w0.heap.size <= D /\ D ≠ E /\ ¬ L.has D /\ ∀ r ∈ rs,r.b ≠ D :=
 ⟨by have:=f.b.size;omega,by have:=f.xY;omega,fun hh=>by have:=f.mm.lt _ hh;omega,fun r hr=>by have:=f.lt hr;omega⟩
end
theorem YF.qx {t n k m σ nx κ Z : Nat} {cg cp cr : Int} {s : Mm} {z : Zt} {gen : Nat -> Nat} {own : Bool} {L : Loc} {ls : List Ox} (R : YF t n k m s σ z nx gen ls) (hG : Good t n k m cg cp cr) (z1 : 1 <= Z) (z2 : Z <= 16) (kz : ZM Z = κ) (hκ : κ < 4) (hσ : σ + 400 < 1000000) (wh : Int) :
 ∃ (E H : Int) (q' : Q) (nx' : Nat) (ls' : List Ox),Mk t n k m κ Z own z.q nx gen ls q' nx' ls' E H /\ ∀ w : World,Z9 w L s -> Calls Tryz.prog 11 #[eV t n k m cg cp cr L.p wh,iV Z,.bool own] w fun e w'=>∃ (st : Nat) (s' : Mm) (σ' : Nat),e = .returned (.agg #[iV E,.int .u64 H,iV 0,iV st]) /\ Z9 w' L s' /\ YF t n k m s' σ' { z with q:=q' } nx' gen ls' /\ σ' <= σ + 100 /\ Only L.has w w':=by
 have hn:=R.ld.tw.pile.big
 have hk:=hG.k1
 cases hF : z.q.F with
 | nil =>
  refine ⟨7,0,z.q,nx,ls,.empty hF,fun w h=>?_⟩
  refine (VW (own:=own) wh h R.ld.tw hG (WU z2) kz hκ hσ (N:=1) (by omega) (PR hF)).mono ?_
  rintro e w' ⟨rfl,s',m',t',o',f'⟩
  exact ⟨_,s',_,rfl,m',⟨R.ld.far t' f' R.ld.Jd,R.tm,R.hd⟩,by omega,o'⟩
 | cons x F =>
  obtain ⟨N,y1,qF,τ1,hN,go,g1⟩:=QT (bs:=base t n k m) R.tm.al hκ hG.n0 hG.k0 hG.k1
  have hx : x < n:=R.ld.tw.pile.lt x (by rw [hF];simp)
  have hg:=R.tm.OM (by rw [hF];simp) hx
  have done : ∀ A i,τ1 = .Yn A i -> ∃ (E H : Int) (q' : Q) (nx' : Nat) (ls' : List Ox),Mk t n k m κ Z own z.q nx gen ls q' nx' ls' E H /\ ∀ w : World,Z9 w L s -> Calls Tryz.prog 11 #[eV t n k m cg cp cr L.p wh,iV Z,.bool own] w fun e w'=>∃ (st : Nat) (s' : Mm) (σ' : Nat),e = .returned (.agg #[iV E,.int .u64 H,iV 0,iV st]) /\ Z9 w' L s' /\ YF t n k m s' σ' { z with q:=q' } nx' gen ls' /\ σ' <= σ + 100 /\ Only L.has w w':=by
   rintro A i rfl
   refine ⟨0,YL x (gen x),_,_,_,.ok x F y1 qF A i hF hx g1,fun w h=>?_⟩
   have r:=PO (z:=(Z : Int)) (own:=own) (σ:=σ) hF go
   rw [hg] at r
   refine (VW wh h R.ld.tw hG (WU z2) kz hκ hσ (N:=N + 4 + 4) (by omega) r).mono ?_
   rintro e w' ⟨rfl,s',m',t',o',f'⟩
   have T':=R.tm.made (own:=own) hκ hG.n0 z1 z2 kz hF R.ld.tw.pile.nd hx g1
   exact ⟨_,s',_,rfl,m',⟨R.ld.far t' f' T'.wb,T',R.hd.made R.tm hG.Dx hn hκ z1 z2 kz hF R.ld.tw.pile.nd hx g1⟩,by omega,o'⟩
  cases g1 with
  | fit i h1 h2=>exact done _ _ rfl
  | new h1 h2=>exact done _ _ rfl
  | none h1 h2 =>
   refine ⟨6,0,z.q.back x F z.q.y,nx,ls,.full x F hF (.none h1 h2),fun w h=>?_⟩
   refine (VW (own:=own) wh h R.ld.tw hG (WU z2) kz hκ hσ (N:=N + 3 + 4) (by omega) (PN hF go)).mono ?_
   rintro e w' ⟨rfl,s',m',t',o',f'⟩
   exact ⟨_,s',_,rfl,m',⟨R.ld.far t' f' R.ld.Jd,R.tm.back hF,R.hd.back x F⟩,by omega,o'⟩
def qw (A B : World -> Prop) : Nat -> World -> Prop
 | 0,w=>A w
 | _ + 1,w=>B w
theorem GX {A B : World -> Prop} (hA : ∀ x y,Grown x y -> A x -> A y) (hB : ∀ x y,Grown x y -> B x -> B y) : ∀ x y p,Grown x y -> qw A B p x -> qw A B p y:=fun x y p g h=>by
 cases p with
 | zero=>exact hA x y g h
 | succ p=>exact hB x y g h
end
section
section
variable {t n k m : Nat} {sp tr : Int} {R : Nat}
end
end
end Go.Proofs.YtmnnhjhhhfabiaaGreat
