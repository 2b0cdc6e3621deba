import Derived.Test.YtmnnhjhhhfabiaaGreatCompGnd
import Derived.Test.YtmnnhjhhhfabiaaGreatCompFrees
namespace Go.Proofs.YtmnnhjhhhfabiaaGreat
open Go.RowKit
structure Rowd where
 T : TypeId
 b : Nat
 cap : Nat
 l : List Value
structure Rowd.at (w0 w : World) (L : Loc) (E : Nat) (r : Rowd) : Prop where
 rw : Rw w r.T r.b r.cap r.l
 nl : ¬ L.has r.b
 w0 : w0.heap.size <= r.b
 ne : r.b ≠ E
structure Sc (p : Int) (w0 w : World) (L : Loc) (E t n k m : Nat) (who : Int) (s : Mm) (rs : List Rowd) : Prop where
 mm : MemAt w L s
 e : w.heap[E]? = some (.cells #[iV t,iV n,iV k,iV m,iV 100,iV p,iV 3,pP L.p 0,iV who] 28 (0,0))
 b : Below w0.heap.size w0 w
 rr : ∀ r ∈ rs,r.at w0 w L E
 nd : rs.Pairwise (fun r r'=>r.b ≠ r'.b)
 a : GndA w0 L E
section
variable {p : Int} {w0 w w' : World} {L : Loc} {E t n k m : Nat} {who : Int} {s s' : Mm} {rs : List Rowd}
theorem Rowd.at.grown {r : Rowd} (h : r.at w0 w L E) (g : Below w.heap.size w w') : r.at w0 w' L E:=⟨h.rw.grown g,h.nl,h.w0,h.ne⟩
theorem Rowd.at.only {r : Rowd} {S : Nat -> Prop} (h : r.at w0 w L E) (o : Only S w w') (hs : ¬ S r.b) : r.at w0 w' L E:=⟨h.rw.only o hs,h.nl,h.w0,h.ne⟩
theorem Sc.v (h : Sc p w0 w L E t n k m who s rs) : BoxV w E t n k m 100 p 3 L.p who :=
 ⟨blk_cell h.e rfl,blk_cell h.e rfl,blk_cell h.e rfl,blk_cell h.e rfl,blk_cell h.e rfl,blk_cell h.e rfl,blk_cell h.e rfl,blk_cell h.e rfl,blk_cell h.e rfl⟩
theorem Sc.ltE (f : Sc p w0 w L E t n k m who s rs) : E < w.heap.size:=blk_lt f.e
theorem Sc.grown (f : Sc p w0 w L E t n k m who s rs) (g : Below w.heap.size w w') : Sc p w0 w' L E t n k m who s rs :=
 ⟨f.mm.below g,(g.block _ f.ltE).trans f.e,grow f.b g,fun r hr=>(f.rr r hr).grown g,f.nd,f.a⟩
theorem Sc.drew (f : Sc p w0 w L E t n k m who s rs) : Sc p w0 w.drew L E t n k m who s rs:=f.grown ((Below.refl _ _).drew)
theorem Sc.mem (f : Sc p w0 w L E t n k m who s rs) (o : Only L.has w w') (mm : MemAt w' L s') : Sc p w0 w' L E t n k m who s' rs :=
 ⟨mm,(o.block _ f.ltE f.a.e).trans f.e,mgrow f.b o f.a.l0,fun r hr=>(f.rr r hr).only o (f.rr r hr).nl,f.nd,f.a⟩
theorem Sc.own (f : Sc p w0 w L E t n k m who s rs) {b : Nat} (o : Only (fun x=>x = b) w w') (h0 : w0.heap.size <= b) (he : b ≠ E) (hl : ¬ L.has b) (hr : ∀ r ∈ rs,r.b ≠ b) : Sc p w0 w' L E t n k m who s rs :=
 ⟨f.mm.only o (fun _ hx e=>hl (e ▸ hx)),(o.block _ f.ltE (fun e=>he e.symm)).trans f.e,ogrow f.b o (fun _ e=>e ▸ h0),fun r h=>(f.rr r h).only o (hr r h),f.nd,f.a⟩
theorem Sc.setIn (f : Sc p w0 w L E t n k m who s rs) {b : Nat} (h0 : w0.heap.size <= b) (he : b ≠ E) (hl : ¬ L.has b) (hr : ∀ r ∈ rs,r.b ≠ b) (i : Nat) (v : Value) : Sc p w0 (w.setCell ⟨b,i,none⟩ v) L E t n k m who s rs :=
 f.own (Only.setCell (a:=⟨b,i,none⟩) (Only.refl (fun k=>k = b) _) (fun _=>rfl) _) h0 he hl hr
theorem Sc.but {K : Nat -> Prop} (f : Sc p w0 w L E t n k m who s rs) (o : Only (fun y=>¬ K y) w w') (mm : MemAt w' L s') (hK : ∀ y,y < w0.heap.size \/ y = E \/ (∃ r ∈ rs,y = r.b) -> K y) : Sc p w0 w' L E t n k m who s' rs :=
 ⟨mm,(o.block _ f.ltE (fun hh=>hh (hK _ (Or.inr (Or.inl rfl))))).trans f.e,ogrow f.b o (fun x hx=>by
  have : ¬ x < w0.heap.size:=fun e=>hx (hK _ (Or.inl e))
  omega),fun r hr=>(f.rr r hr).only o (fun hh=>hh (hK _ (Or.inr (Or.inr ⟨r,hr,rfl⟩)))),f.nd,f.a⟩
theorem Sc.row (f : Sc p w0 w L E t n k m who s rs) {r : Rowd} (h : r ∈ rs) : r.at w0 w L E:=f.rr r h
theorem Sc.lt {r : Rowd} (f : Sc p w0 w L E t n k m who s rs) (h : r ∈ rs) : r.b < w.heap.size:=(f.rr r h).rw.lt
theorem Sc.new (f : Sc p w0 w L E t n k m who s rs) {D : Nat} (h : w.heap.size <= D) : w0.heap.size <= D /\ D ≠ E /\ ¬ L.has D /\ ∀ r ∈ rs,r.b ≠ D :=
 ⟨by have:=f.b.size;omega,by have:=f.ltE;omega,fun hh=>by have:=f.mm.lt _ hh;omega,fun r hr=>by have:=f.lt hr;omega⟩
theorem Sc.more (f : Sc p w0 w L E t n k m who s rs) {r : Rowd} (h : r.at w0 w L E) (hn : ∀ r' ∈ rs,r.b ≠ r'.b) : Sc p w0 w L E t n k m who s (r :: rs) :=
 ⟨f.mm,f.e,f.b,fun r' hr=>(List.mem_cons.1 hr).elim (fun e=>e ▸ h) (f.rr r'),List.pairwise_cons.2 ⟨hn,f.nd⟩,f.a⟩
theorem Sc.first {r r' : Rowd} (f : Sc p w0 w L E t n k m who s (r :: rs)) (o : Only (fun x=>x = r.b) w w') (h : Rw w' r'.T r'.b r'.cap r'.l) (hb : r'.b = r.b \/ w.heap.size <= r'.b) : Sc p w0 w' L E t n k m who s (r' :: rs):=by
 have h0:=f.rr r List.mem_cons_self
 have hnd:=List.pairwise_cons.1 f.nd
 have f1 : Sc p w0 w' L E t n k m who s rs:=Sc.own (rs:=rs) ⟨f.mm,f.e,f.b,fun r'' hr=>f.rr r'' (List.mem_cons_of_mem _ hr),hnd.2,f.a⟩ o h0.w0 h0.ne h0.nl (fun r'' hr e=>hnd.1 r'' hr e.symm)
 rcases hb with e | e
 · exact f1.more ⟨h,e ▸ h0.nl,e ▸ h0.w0,e ▸ h0.ne⟩ (fun r'' hr=>e ▸ hnd.1 r'' hr)
 · obtain ⟨n1,n2,n3,n4⟩:=f.new e
   exact f1.more ⟨h,n3,n1,n2⟩ (fun r'' hr e'=>n4 r'' (List.mem_cons_of_mem _ hr) e'.symm)
end
theorem Ranch.fate {t n k m σ nx κ Z : Nat} {cg cp cr : Int} {s : Mm} {z : Zt} {gen : Nat -> Nat} {own : Bool} {L : Loc} {ls : List Ox} (R : Ranch t n k m s σ z nx gen ls) (hG : Good t n k m cg cp cr) (z1 : 1 <= Z) (z2 : Z <= 16) (kz : classOf Z = κ) (hκ : κ < 4) (hσ : σ + 400 < 1000000) (wh : Int) :
 ∃ (E H : Int) (q' : Q) (nx' : Nat) (ls' : List Ox),Mk t n k m κ Z own z.q nx gen ls q' nx' ls' E H /\ ∀ w : World,MemAt w L s -> Calls Tryz.prog 11 #[eV t n k m cg cp cr L.p wh,iV Z,.bool own] w fun e w'=>∃ (st : Nat) (s' : Mm) (σ' : Nat),e = .returned (.agg #[iV E,.int .u64 H,iV 0,iV st]) /\ MemAt w' L s' /\ Ranch t n k m s' σ' { z with q:=q' } nx' gen ls' /\ σ' <= σ + 100 /\ Only L.has w w':=by
 have hn:=R.ld.tw.pile.big
 have hk:=hG.k1
 cases hF : z.q.F with
 | nil =>
  refine ⟨7,0,z.q,nx,ls,.empty hF,fun w h=>?_⟩
  refine (make_far (own:=own) wh h R.ld.tw hG (class_fit z2) kz hκ hσ (N:=1) (by omega) (runs_none hF)).mono ?_
  rintro e w' ⟨rfl,s',m',t',o',f'⟩
  exact ⟨_,s',_,rfl,m',⟨R.ld.far t' f' R.ld.dww,R.tm,R.hd⟩,by omega,o'⟩
 | cons x F =>
  obtain ⟨N,y1,nx1,τ1,hN,go,g1⟩:=alone_goes (bs:=base t n k m) R.tm.al hκ hG.n0 hG.k0 hG.k1
  have hx : x < n:=R.ld.tw.pile.lt x (by rw [hF];simp)
  have hg:=R.tm.gen_is (by rw [hF];simp) hx
  have done : ∀ A i,τ1 = .won A i -> ∃ (E H : Int) (q' : Q) (nx' : Nat) (ls' : List Ox),Mk t n k m κ Z own z.q nx gen ls q' nx' ls' E H /\ ∀ w : World,MemAt w L s -> Calls Tryz.prog 11 #[eV t n k m cg cp cr L.p wh,iV Z,.bool own] w fun e w'=>∃ (st : Nat) (s' : Mm) (σ' : Nat),e = .returned (.agg #[iV E,.int .u64 H,iV 0,iV st]) /\ MemAt w' L s' /\ Ranch t n k m s' σ' { z with q:=q' } nx' gen ls' /\ σ' <= σ + 100 /\ Only L.has w w':=by
   rintro A i rfl
   refine ⟨0,packH x (gen x),_,_,_,.ok x F y1 nx1 A i hF hx g1,fun w h=>?_⟩
   have r:=runs_made (z:=(Z : Int)) (own:=own) (σ:=σ) hF go
   rw [hg] at r
   refine (make_far wh h R.ld.tw hG (class_fit z2) kz hκ hσ (N:=N + 4 + 4) (by omega) r).mono ?_
   rintro e w' ⟨rfl,s',m',t',o',f'⟩
   have T':=R.tm.made (own:=own) hκ hG.n0 z1 z2 kz hF R.ld.tw.pile.nd hx g1
   exact ⟨_,s',_,rfl,m',⟨R.ld.far t' f' T'.wb,T',R.hd.made R.tm hG.sixh hn hκ z1 z2 kz hF R.ld.tw.pile.nd hx g1⟩,by omega,o'⟩
  cases g1 with
  | fit i h1 h2=>exact done _ _ rfl
  | new h1 h2=>exact done _ _ rfl
  | none h1 h2 =>
   refine ⟨6,0,z.q.back x F z.q.y,nx,ls,.full x F hF (.none h1 h2),fun w h=>?_⟩
   refine (make_far (own:=own) wh h R.ld.tw hG (class_fit z2) kz hκ hσ (N:=N + 3 + 4) (by omega) (runs_back hF go)).mono ?_
   rintro e w' ⟨rfl,s',m',t',o',f'⟩
   exact ⟨_,s',_,rfl,m',⟨R.ld.far t' f' R.ld.dww,R.tm.back hF,R.hd.back x F⟩,by omega,o'⟩
def hsO (ls : List Ox) : List Value:=ls.reverse.map (fun o=>.int .u64 (packH o.x o.g))
theorem hsO_len (ls : List Ox) : (hsO ls).length = ls.length:=by simp [hsO]
theorem hsO_cons (o : Ox) (ls : List Ox) : hsO (o :: ls) = hsO ls ++ [.int .u64 (packH o.x o.g)]:=by simp [hsO]
structure MadeI (nx : Nat) (q : Q) (ls : List Ox) (j : Nat) : Prop where
 len : ls.length <= j
 us : UsedY nx q.y
 db : ∀ i,q.db i = 0
 g1 : ∀ o ∈ ls,o.g = 1 /\ o.own = false
theorem made0 (n : Nat) : MadeI 0 (Q.new n) [] 0:=⟨Nat.le_refl _,used0 _,fun _=>rfl,fun _ h=>(by cases h)⟩
theorem Mk.madeI {t n k m κ Z : Nat} {q q' : Q} {nx nx' : Nat} {ls ls' : List Ox} {E H : Int} {j : Nat} (M : Mk t n k m κ Z false q nx (fun _=>1) ls q' nx' ls' E H) (I : MadeI nx q ls j) :
 MadeI nx' q' ls' (j + 1) /\ ((E = 0 /\ ∃ o,ls' = o :: ls /\ H = packH o.x o.g) \/ ((E = 6 \/ E = 7) /\ ls' = ls /\ nx' = nx)):=by
 have U:=M.used I.us
 have D : ∀ i,q'.db i = 0:=fun i=>by rw [M.db];exact I.db i
 have hl:=I.len
 cases M with
 | empty hF=>exact ⟨⟨by omega,U,D,I.g1⟩,Or.inr ⟨Or.inr rfl,rfl,rfl⟩⟩
 | full x F hF g=>exact ⟨⟨by omega,U,D,I.g1⟩,Or.inr ⟨Or.inl rfl,rfl,rfl⟩⟩
 | ok x F y' nx' A i hF hx g=>exact ⟨⟨by simp only [List.length_cons];omega,U,D,fun o h=>(List.mem_cons.1 h).elim (fun e=>e ▸ ⟨rfl,rfl⟩) (I.g1 o)⟩,Or.inl ⟨rfl,_,rfl,rfl⟩⟩
def leftO (ls : List Ox) (d : Nat) : List Ox:=ls.take (ls.length - d)
theorem leftO_0 (ls : List Ox) : leftO ls 0 = ls:=by simp [leftO]
theorem leftO_all (ls : List Ox) : leftO ls ls.length = []:=by simp [leftO]
theorem leftO_next (ls : List Ox) {d : Nat} (h : d < ls.length) : ∃ o ∈ ls,leftO ls d = leftO ls (d + 1) ++ o :: [] /\ (hsO ls)[d]? = some (.int .u64 (packH o.x o.g)):=by
 have hlt : ls.length - (d + 1) < ls.length:=by omega
 refine ⟨ls[ls.length - (d + 1)],List.getElem_mem hlt,?_,?_⟩
 · unfold leftO
   rw [show ls.length - d = ls.length - (d + 1) + 1 by omega,List.take_add_one,List.getElem?_eq_getElem hlt]
   rfl
 · unfold hsO
   rw [List.getElem?_map,List.getElem?_reverse h,show ls.length - 1 - d = ls.length - (d + 1) by omega,List.getElem?_eq_getElem hlt]
   rfl
theorem Ranch.drops {t n k m σ nx d : Nat} {cg cp cr : Int} {s : Mm} {z : Zt} {gen : Nat -> Nat} {L : Loc} {ls : List Ox} (R : Ranch t n k m s σ z nx gen (leftO ls d)) (hG : Good t n k m cg cp cr) (hd : d < ls.length) (h1 : ∀ o ∈ ls,o.g = 1 /\ o.own = false) (hσ : σ + 200 < 1000000) (wh : Int) (hcg : 1 < cg:=by decide) :
 ∃ H : Int,(hsO ls)[d]? = some (.int .u64 H) /\ ∃ (q' : Q) (gen' : Nat -> Nat),q'.y = z.q.y /\ q'.db = z.q.db /\ ∀ w : World,MemAt w L s -> Calls Tryz.prog 16 #[eV t n k m cg cp cr L.p wh,.int .u64 H,.bool false] w fun e w'=>∃ (st : Int) (s' : Mm) (σ' : Nat),e = .returned (.agg #[iV 0,.int .u64 0,iV 0,iV st]) /\ MemAt w' L s' /\ Ranch t n k m s' σ' { z with q:=q' } nx gen' (leftO ls (d + 1)) /\ σ' <= σ + 40 /\ Only L.has w w':=by
 obtain ⟨o,ho,e1,e2⟩:=leftO_next ls hd
 obtain ⟨g1,g2⟩:=h1 o ho
 rw [e1] at R
 refine ⟨_,e2,z.q.gone cg o.x (z.q.sw o.x) o.Z o.i,upd gen o.x (o.g + 1),rfl,rfl,fun w h=>?_⟩
 have k:=Ranch.drop h R hG (by rw [g1];exact hcg) hσ wh
 rw [g2,List.append_nil] at k
 exact k
def Keep3 (n E b y : Nat) : Prop:=y < n \/ y = E \/ y = b
def ph2 (A B : World -> Prop) : Nat -> World -> Prop
 | 0,w=>A w
 | _ + 1,w=>B w
theorem ph2_grown {A B : World -> Prop} (hA : ∀ x y,Grown x y -> A x -> A y) (hB : ∀ x y,Grown x y -> B x -> B y) : ∀ x y p,Grown x y -> ph2 A B p x -> ph2 A B p y:=fun x y p g h=>by
 cases p with
 | zero=>exact hA x y g h
 | succ p=>exact hB x y g h
end Go.Proofs.YtmnnhjhhhfabiaaGreat
