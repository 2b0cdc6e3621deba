import Derived.Test.YtlolfmoolgenpaaGreatActCrowd
import Derived.Test.YtlolfmoolgenpaaGreatActPair
import Derived.Test.YtlolfmoolgenpaaGreatActDo
namespace Go.Proofs.YtlolfmoolgenpaaGreat
open Go.RowKit
def ptrB : Option Th -> Bk -> Value
 | none,_=>.pointer none
 | some _,B=>.pointer (some ⟨B.A,0,none⟩)
def actC (W : Wt) : List Value:=[.int .i64 (W.kd + 2),.int .i64 0,.int .u64 W.nu,.int .i64 0,.int .i64 W.vl,.int .i64 W.ol,.bool false]
def He.dn (e : He) : List Value:=[.int .i64 e.E,.int .u64 0,.int .i64 e.V,.int .i64 (e.St : Int)]
def He.ac (e : He) : List Value:=actC e.W
def envC (L : Loc) (who : Int) : List Value:=[.int .i64 ((4 : Nat) : Int),.int .i64 ((8 : Nat) : Int),.int .i64 ((8 : Nat) : Int),.int .i64 ((40 : Nat) : Int),.int .i64 100,.int .i64 600,.int .i64 3,.pointer (some ⟨L.p,0,none⟩),.int .i64 who]
structure XRow (w : World) (Xb : Nat) (xs : Nat -> List Value) : Prop where
 ex : ∃ c,w.heap[Xb]? = some (.cells c 55 (0,0)) /\ c.size = 21 /\ ∀ a,a < 3 -> ∀ (j : Nat) u,(xs a)[j]? = some u -> c[a * 7 + j]? = some u
 ln : ∀ a,a < 3 -> (xs a).length = 7
section
variable {w w' : World} {Xb : Nat} {xs : Nat -> List Value}
theorem XRow.lt (h : XRow w Xb xs) : Xb < w.heap.size:=by obtain ⟨c,k,_⟩:=h.ex;exact blk_lt k
theorem XRow.of_block (h : XRow w Xb xs) (e : w'.heap[Xb]? = w.heap[Xb]?) : XRow w' Xb xs:=⟨h.ex.imp fun _ k=>⟨e.trans k.1,k.2⟩,h.ln⟩
theorem XRow.only {S : Nat -> Prop} (h : XRow w Xb xs) (o : Only S w w') (hs : ¬ S Xb) : XRow w' Xb xs:=h.of_block (o.block _ h.lt hs)
theorem XRow.cell (h : XRow w Xb xs) {a j : Nat} (ha : a < 3) {u : Value} (hu : (xs a)[j]? = some u) : w.cell? ⟨Xb,a * 7 + j,none⟩ = some u:=by
 obtain ⟨c,k,_,k2⟩:=h.ex;exact blk_cell k (k2 a ha j u hu)
theorem XRow.some (h : XRow w Xb xs) {a j : Nat} (ha : a < 3) (hj : j < 7) : ∃ u,w.cell? ⟨Xb,a * 7 + j,none⟩ = some u:=by
 have:=h.ln a ha
 exact ⟨_,h.cell ha (List.getElem?_eq_getElem (show j < (xs a).length by omega))⟩
theorem XRow.fz (h : XRow w Xb xs) (i : Nat) : w.frozen? ⟨Xb,i,none⟩ = false:=by obtain ⟨c,k,_⟩:=h.ex;exact blk_frozen k i
theorem XRow.set (h : XRow w Xb xs) {a : Nat} (ha : a < 3) {e : List Value} (he : e.length = 7) : XRow (w.setCells Xb (a * 7) e) Xb (upd xs a e):=by
 obtain ⟨c,k,k1,k2⟩:=h.ex
 obtain ⟨c',q,q1,q2,q3⟩:=setCells_blk e w (a * 7) c k
 refine ⟨⟨c',q,by omega,fun a' ha' j u hu=>?_⟩,fun a' ha'=>?_⟩
 · by_cases ea : a' = a
   · subst ea
     rw [upd_same] at hu
     have:=(List.getElem?_eq_some_iff.1 hu).1
     exact q3 j u hu (by omega)
   · rw [upd_other _ _ _ _ ea] at hu
     have:=(List.getElem?_eq_some_iff.1 hu).1
     have:=h.ln a' ha'
     rw [q2 _ (by omega)]
     exact k2 a' ha' j u hu
 · by_cases ea : a' = a
   · subst ea;rw [upd_same];exact he
   · rw [upd_other _ _ _ _ ea];exact h.ln a' ha'
end
def Pt (L : Loc) (E Wb Xb b1 b2 : Nat) (ps : Nat -> Option Th) (Bs : Nat -> Bk) : Nat -> Nat -> Prop
 | 0,x=>L.has x
 | 1,x=>x = E
 | 2,x=>x = Wb
 | 3,x=>x = Xb
 | 4,x=>x = b1
 | 5,x=>x = b2
 | a + 6,x=>ps a ≠ none /\ (Bs a).has x
structure Crew (w0 w : World) (L : Loc) (E Wb Xb b1 c1 b2 c2 : Nat) (who : Int) (s : Mm) (σ : Nat) (q : Q) (pn : Nat -> Int) (ps : Nat -> Option Th) (Bs : Nat -> Bk) (xs : Nat -> List Value) (D : List He) : Prop where
 mm : MemAt w L s
 vl : Vil 4 8 8 40 s σ q pn
 v : ∃ c,At w E 0 27 c (envC L who)
 b : Below w0.heap.size w0 w
 ar : w.rowIs Wb 54 3 (fun a=>ptrB (ps a) (Bs a))
 xr : XRow w Xb xs
 xw : ∀ a t,ps a = some t -> xs a = actC t.W
 th : ∀ a t,ps a = some t -> ThAt 4 8 8 40 w L (Bs a) 0 (t.as σ q pn)
 r1 : Rz w 40 4 b1 c1 (D.map He.dn)
 r2 : Rz w 36 7 b2 c2 (D.map He.ac)
 lt : ∀ i x,Pt L E Wb Xb b1 b2 ps Bs i x -> x < w.heap.size
 ap : ∀ i j x,Pt L E Wb Xb b1 b2 ps Bs i x -> Pt L E Wb Xb b1 b2 ps Bs j x -> i = j
 ge : ∀ i x,Pt L E Wb Xb b1 b2 ps Bs i x -> w0.heap.size <= x
theorem ThAt.move {t n k m : Nat} {w : World} {L : Loc} {B : Bk} {σ0 : Nat} {T : Th} {σ σ' : Nat} {q q' : Q} {pn pn' : Nat -> Int} (h : ThAt t n k m w L B σ0 (T.as σ q pn)) : ThAt t n k m w L B 0 (T.as σ' q' pn') :=
 ⟨h.at_,h.pin,h.dw,h.ov,h.p5,Nat.zero_le _,h.nl⟩
theorem th_done {t n k m : Nat} {w : World} {L : Loc} {B : Bk} {σ0 σ : Nat} {T : Th} {q : Q} {pn : Nat -> Int} (h : ThAt t n k m w L B σ0 (T.as σ q pn)) (p5 : T.ph = 5) {E V : Int} {st : Nat} (hα : T.α = .over E V st) :
 Calls Tryz.prog 20 #[.pointer (some ⟨B.A,0,none⟩)] w fun e w'=>e = .returned (.agg #[.int .i64 E,.int .u64 0,.int .i64 V,.int .i64 (st : Int)]) /\ Below w.heap.size w w':=by
 obtain ⟨E1,H1,V1,S1,td,hc⟩:=act_done h p5
 have td' : Dw.told σ0 σ E1 H1 V1 S1 (.ac T.W false 0 1 T.α):=td
 rw [hα] at td'
 obtain ⟨rfl,rfl,rfl,rfl⟩:=td'
 exact hc w (Below.refl _ _)
theorem good8 : Good 4 8 8 40 100 600 3:=⟨by decide,by decide,by decide,by decide,by decide,by decide,by decide,by decide,by decide,by decide,by decide,by decide,by decide,by decide⟩
theorem below_only {w a b : World} {S : Nat -> Prop} (h : Below w.heap.size w a) (o : Only S a b) (hc : ∀ k,S k -> w.heap.size <= k) : Below w.heap.size w b :=
 h.trans (o.below h.size (fun k hk hs=>by have:=hc k hs;omega))
section
variable {w0 w w' : World} {L : Loc} {E Wb Xb b1 c1 b2 c2 σ K : Nat} {who : Int} {s : Mm} {q : Q} {pn : Nat -> Int} {ps : Nat -> Option Th} {Bs : Nat -> Bk} {xs : Nat -> List Value} {D : List He}
theorem Crew.grown (C : Crew w0 w L E Wb Xb b1 c1 b2 c2 who s σ q pn ps Bs xs D) (g : Below w.heap.size w w') : Crew w0 w' L E Wb Xb b1 c1 b2 c2 who s σ q pn ps Bs xs D :=
 ⟨C.mm.below g,C.vl,C.v.imp fun _ h=>h.grown g,grow C.b g,C.ar.of_block (g.block _ C.ar.lt),C.xr.of_block (g.block _ C.xr.lt),C.xw,fun a t h=>(C.th a t h).grown g,C.r1.grown g,C.r2.grown g,fun i x h=>Nat.lt_of_lt_of_le (C.lt i x h) g.size,C.ap,C.ge⟩
theorem Crew.drew (C : Crew w0 w L E Wb Xb b1 c1 b2 c2 who s σ q pn ps Bs xs D) : Crew w0 w.drew L E Wb Xb b1 c1 b2 c2 who s σ q pn ps Bs xs D:=C.grown ((Below.refl _ _).drew)
theorem Crew.setWho (C : Crew w0 w L E Wb Xb b1 c1 b2 c2 who s σ q pn ps Bs xs D) (k : Int) : Crew w0 (w.setCell ⟨E,8,none⟩ (.int .i64 k)) L E Wb Xb b1 c1 b2 c2 k s σ q pn ps Bs xs D:=by
 have o : Only (fun b=>b = E) w (w.setCell ⟨E,8,none⟩ (.int .i64 k)):=(Only.refl (fun b=>b = E) w).setCell (a:=⟨E,8,none⟩) (fun _=>rfl) _
 have no : ∀ i x,i ≠ 1 -> Pt L E Wb Xb b1 b2 ps Bs i x -> ¬ x = E:=fun i x h1 h2 e=>h1 (C.ap i 1 x h2 e)
 obtain ⟨c,hv⟩:=C.v
 refine ⟨C.mm.setIn (fun h=>no 0 E (by decide) h rfl) _ _,C.vl,⟨_,hv.put0 8 _⟩,below_setIn C.b (C.ge 1 E rfl) _ _,C.ar.of_block (o.block _ C.ar.lt (no 2 _ (by decide) rfl)),C.xr.only o (no 3 _ (by decide) rfl),C.xw,fun a t h=>(C.th a t h).only o (fun x hx=>no (a + 6) x (by omega) ⟨by rw [h];simp,hx⟩),C.r1.only o (no 4 _ (by decide) rfl),C.r2.only o (no 5 _ (by decide) rfl),fun i x h=>Nat.lt_of_lt_of_le (C.lt i x h) o.size,C.ap,C.ge⟩
theorem Crew.setX (C : Crew w0 w L E Wb Xb b1 c1 b2 c2 who s σ q pn ps Bs xs D) (hK : K < 3) (h : ps K = none) {e : List Value} (he : e.length = 7) : Crew w0 (w.setCells Xb (K * 7) e) L E Wb Xb b1 c1 b2 c2 who s σ q pn ps Bs (upd xs K e) D:=by
 have o : Only (fun b=>b = Xb) w (w.setCells Xb (K * 7) e):=setCells_only _ _ _ _ (Only.refl _ _)
 have no : ∀ i x,i ≠ 3 -> Pt L E Wb Xb b1 b2 ps Bs i x -> ¬ x = Xb:=fun i x h1 h2 e=>h1 (C.ap i 3 x h2 e)
 refine ⟨C.mm.only o (fun x h=>no 0 x (by decide) h),C.vl,C.v.imp fun _ h=>h.only o (no 1 E (by decide) rfl),below_only C.b o (fun x e=>C.ge 3 x e),C.ar.of_block (o.block _ C.ar.lt (no 2 _ (by decide) rfl)),C.xr.set hK he,fun a t ht=>?_,fun a t h=>(C.th a t h).only o (fun x hx=>no (a + 6) x (by omega) ⟨by rw [h];simp,hx⟩),C.r1.only o (no 4 _ (by decide) rfl),C.r2.only o (no 5 _ (by decide) rfl),fun i x h=>Nat.lt_of_lt_of_le (C.lt i x h) o.size,C.ap,C.ge⟩
 rw [upd_other _ _ _ _ (fun e=>by rw [e,h] at ht;cases ht)]
 exact C.xw a t ht
theorem setP (C : Crew w0 w L E Wb Xb b1 c1 b2 c2 who s σ q pn ps Bs xs D) (x : Value) {f : Nat -> Value} (h : ∀ j,j < 3 -> f j = if j = K then x else ptrB (ps j) (Bs j)) : (w.setCell ⟨Wb,K,none⟩ x).rowIs Wb 54 3 f :=
 (C.ar.set K x).congr fun j hj=>by rw [h j hj]
theorem Crew.begin (C : Crew w0 w L E Wb Xb b1 c1 b2 c2 who s σ q pn ps Bs xs D) (h : ps K = none) {W : Wt} {B : Bk} {σ0 : Nat} (g : Below w.heap.size w w') (hB : ∀ x,B.has x -> w.heap.size <= x) (hA : ThAt 4 8 8 40 w' L B σ0 (Th.as ⟨W,0,.see⟩ σ q pn)) (hx : xs K = actC W) (hlt : ∀ x,B.has x -> x < w'.heap.size) :
 Crew w0 (w'.setCell ⟨Wb,K,none⟩ (.pointer (some ⟨B.A,0,none⟩))) L E Wb Xb b1 c1 b2 c2 who s σ q pn (upd ps K (some ⟨W,0,.see⟩)) (upd Bs K B) xs D:=by
 have C1:=C.grown g
 have o : Only (fun b=>b = Wb) w' (w'.setCell ⟨Wb,K,none⟩ (.pointer (some ⟨B.A,0,none⟩))):=(Only.refl (fun b=>b = Wb) w').setCell (a:=⟨Wb,K,none⟩) (fun _=>rfl) _
 have no : ∀ i x,i ≠ 2 -> Pt L E Wb Xb b1 b2 ps Bs i x -> ¬ x = Wb:=fun i x h1 h2 e=>h1 (C.ap i 2 x h2 e)
 have hWb:=C.lt 2 Wb rfl
 have pt : ∀ i x,Pt L E Wb Xb b1 b2 (upd ps K (some ⟨W,0,.see⟩)) (upd Bs K B) i x -> Pt L E Wb Xb b1 b2 ps Bs i x \/ (i = K + 6 /\ B.has x):=fun i x hp=>by
  match i,hp with
  | 0,hp=>exact Or.inl hp
  | 1,hp=>exact Or.inl hp
  | 2,hp=>exact Or.inl hp
  | 3,hp=>exact Or.inl hp
  | 4,hp=>exact Or.inl hp
  | 5,hp=>exact Or.inl hp
  | a + 6,hp =>
   have hp : upd ps K (some ⟨W,0,.see⟩) a ≠ none /\ (upd Bs K B a).has x:=hp
   by_cases e : a = K
   · subst e;rw [upd_same,upd_same] at hp;exact Or.inr ⟨rfl,hp.2⟩
   · rw [upd_other _ _ _ _ e,upd_other _ _ _ _ e] at hp;exact Or.inl hp
 refine ⟨C1.mm.setIn (fun h=>no 0 Wb (by decide) h rfl) _ _,C.vl,C1.v.imp fun _ h=>h.only o (no 1 E (by decide) rfl),below_setIn C1.b (C.ge 2 Wb rfl) _ _,setP C1 _ (fun j _=>?_),C1.xr.only o (no 3 _ (by decide) rfl),fun a t ht=>?_,fun a t ht=>?_,C1.r1.only o (no 4 _ (by decide) rfl),C1.r2.only o (no 5 _ (by decide) rfl),fun i x h=>?_,fun i j x h1 h2=>?_,fun i x h=>?_⟩
 · by_cases e : j = K
   · subst e;rw [upd_same,upd_same,if_pos rfl];rfl
   · rw [upd_other _ _ _ _ e,upd_other _ _ _ _ e,if_neg e]
 · by_cases e : a = K
   · subst e;rw [upd_same] at ht;cases ht;exact hx
   · rw [upd_other _ _ _ _ e] at ht;exact C.xw a t ht
 · by_cases e : a = K
   · subst e;rw [upd_same] at ht;cases ht;rw [upd_same]
     exact (hA.only o (fun x hx e=>by have:=hB x hx;omega)).move
   · rw [upd_other _ _ _ _ e] at ht;rw [upd_other _ _ _ _ e]
     exact (C1.th a t ht).only o (fun x hx=>no (a + 6) x (by omega) ⟨by rw [ht];simp,hx⟩)
 · refine Nat.lt_of_lt_of_le ?_ o.size
   rcases pt i x h with h | ⟨-,h⟩
   · exact C1.lt i x h
   · exact hlt x h
 · rcases pt i x h1 with k1 | ⟨rfl,k1⟩
   · rcases pt j x h2 with k2 | ⟨rfl,k2⟩
     · exact C.ap i j x k1 k2
     · have:=C.lt i x k1;have:=hB x k2;omega
   · rcases pt j x h2 with k2 | ⟨rfl,k2⟩
     · have:=C.lt j x k2;have:=hB x k1;omega
     · rfl
 · rcases pt i x h with h | ⟨-,h⟩
   · exact C.ge i x h
   · have:=hB x h;have:=C.b.size;omega
theorem pt_upd {t t' : Th} (h : ps K = some t) : ∀ i x,Pt L E Wb Xb b1 b2 (upd ps K (some t')) Bs i x -> Pt L E Wb Xb b1 b2 ps Bs i x:=fun i x hp=>by
 match i,hp with
 | 0,hp=>exact hp
 | 1,hp=>exact hp
 | 2,hp=>exact hp
 | 3,hp=>exact hp
 | 4,hp=>exact hp
 | 5,hp=>exact hp
 | a + 6,hp =>
  have hp : upd ps K (some t') a ≠ none /\ (Bs a).has x:=hp
  by_cases e : a = K
  · subst e;exact ⟨by rw [h];simp,hp.2⟩
  · rw [upd_other _ _ _ _ e] at hp;exact hp
theorem pt_none : ∀ i x,Pt L E Wb Xb b1 b2 (upd ps K none) Bs i x -> Pt L E Wb Xb b1 b2 ps Bs i x:=fun i x hp=>by
 match i,hp with
 | 0,hp=>exact hp
 | 1,hp=>exact hp
 | 2,hp=>exact hp
 | 3,hp=>exact hp
 | 4,hp=>exact hp
 | 5,hp=>exact hp
 | a + 6,hp =>
  have hp : upd ps K none a ≠ none /\ (Bs a).has x:=hp
  by_cases e : a = K
  · subst e;rw [upd_same] at hp;exact absurd rfl hp.1
  · rw [upd_other _ _ _ _ e] at hp;exact hp
theorem Crew.step (C : Crew w0 w L E Wb Xb b1 c1 b2 c2 K s σ q pn ps Bs xs D) (hK : K < 3) {t t' : Th} (h : ps K = some t) (hσ : σ < 1000000) (hwd : ∀ a,Wd (q.dw a)) (p5 : t.ph ≠ 5) (hn : t.ph = 3 -> Dw.need 4 8 8 40 100 q (.ac t.W false 0 1 t.α)) {q' : Q} {pn' : Nat -> Int} (ht : asTurn 4 8 8 40 100 K (t.as σ q pn) = t'.as (σ + 1) q' pn') (hW : t'.W = t.W) :
 Calls Tryz.prog 18 #[.pointer (some ⟨(Bs K).A,0,none⟩),.agg #[.int .i64 ((4 : Nat) : Int),.int .i64 ((8 : Nat) : Int),.int .i64 ((8 : Nat) : Int),.int .i64 ((40 : Nat) : Int),.int .i64 100,.int .i64 600,.int .i64 3,.pointer (some ⟨L.p,0,none⟩),.int .i64 K]] w fun e w'=>e = .returned (.bool (t'.ph == 5)) /\ ∃ s',Crew w0 w' L E Wb Xb b1 c1 b2 c2 K s' (σ + 1) q' pn' (upd ps K (some t')) Bs xs D:=by
 refine (act_step C.mm C.vl good8 hσ hwd (C.th K t h) p5 hn K (by omega) _ ht).mono ?_
 rintro e w' ⟨rfl,s',m',v',th',o⟩
 refine ⟨rfl,s',?_⟩
 have no : ∀ i x,i ≠ 0 -> i ≠ K + 6 -> Pt L E Wb Xb b1 b2 ps Bs i x -> ¬ LB L (Bs K) x:=fun i x h1 h2 h3 h4=>by
  rcases h4 with h4 | h4
  · exact h1 (C.ap i 0 x h3 h4)
  · exact h2 (C.ap i (K + 6) x h3 ⟨by rw [h];simp,h4⟩)
 refine ⟨m',v',C.v.imp fun _ h=>h.only o (no 1 E (by decide) (by omega) rfl),below_only C.b o (fun x hx=>hx.elim (fun h=>C.ge 0 x h) (fun hb=>C.ge (K + 6) x ⟨by rw [h];simp,hb⟩)),?_,C.xr.only o (no 3 _ (by decide) (by omega) rfl),fun a t1 h1=>?_,fun a t1 h1=>?_,C.r1.only o (no 4 _ (by decide) (by omega) rfl),C.r2.only o (no 5 _ (by decide) (by omega) rfl),fun i x hp=>Nat.lt_of_lt_of_le (C.lt i x (pt_upd h i x hp)) o.size,fun i j x h1 h2=>C.ap i j x (pt_upd h i x h1) (pt_upd h j x h2),fun i x hp=>C.ge i x (pt_upd h i x hp)⟩
 · refine (C.ar.of_block (o.block _ C.ar.lt (no 2 _ (by decide) (by omega) rfl))).congr fun j _=>?_
   by_cases e : j = K
   · subst e;rw [upd_same,h];rfl
   · rw [upd_other _ _ _ _ e]
 · by_cases e : a = K
   · subst e;rw [upd_same] at h1;cases h1;rw [hW];exact C.xw a t h
   · rw [upd_other _ _ _ _ e] at h1;exact C.xw a t1 h1
 · by_cases e : a = K
   · subst e;rw [upd_same] at h1;cases h1;exact th'
   · rw [upd_other _ _ _ _ e] at h1
     exact ((C.th a t1 h1).only o (fun x hx=>no (a + 6) x (by omega) (by omega) ⟨by rw [h1];simp,hx⟩)).move
theorem Crew.told (C : Crew w0 w L E Wb Xb b1 c1 b2 c2 who s σ q pn ps Bs xs D) {F : Two} (fb0 : F.b 0 = b1) (fb1 : F.b 1 = b2) (fc0 : F.c 0 = c1) (fc1 : F.c 1 = c2) (fl0 : F.l 0 = D.map He.dn) (fl1 : F.l 1 = D.map He.ac) {e : He} (fe0 : F.e 0 = e.dn) (fe1 : F.e 1 = e.ac) (fB : F.base = w.heap.size) (k : KeepT F w w') {v1 v2 : Value} (g1 : F.grew 0 w' v1) (g2 : F.grew 1 w' v2) :
 ∃ b1' c1' b2' c2',v1 = .slice (some ⟨b1',0,none⟩) (D.length + 1) c1' /\ v2 = .slice (some ⟨b2',0,none⟩) (D.length + 1) c2' /\ Crew w0 w' L E Wb Xb b1' c1' b2' c2' who s σ q pn ps Bs xs (D ++ [e]):=by
 obtain ⟨b1',c1',rfl,r1,e1⟩:=g1
 obtain ⟨b2',c2',rfl,r2,e2⟩:=g2
 rw [fb0,fc0,fB] at e1
 rw [fb1,fc1,fB] at e2
 rw [fl0,fe0] at r1
 rw [fl1,fe1] at r2
 refine ⟨b1',c1',b2',c2',by rw [fl0];simp,by rw [fl1];simp,?_⟩
 have hS : ∀ x,F.has x -> x = b1 \/ x = b2:=by
  rintro x ⟨a,ha,rfl⟩
  have : a = 0 \/ a = 1:=by omega
  rcases this with rfl | rfl
  · exact Or.inl fb0
  · exact Or.inr fb1
 have o:=k.only
 have no : ∀ i x,i ≠ 4 -> i ≠ 5 -> Pt L E Wb Xb b1 b2 ps Bs i x -> ¬ F.has x:=fun i x h1 h2 h3 h4=>by
  rcases hS x h4 with e | e
  · exact h1 (C.ap i 4 x h3 e)
  · exact h2 (C.ap i 5 x h3 e)
 have n12 : b1 ≠ b2:=fun e=>by have:=C.ap 4 5 b1 rfl e;omega
 have pt : ∀ i x,Pt L E Wb Xb b1' b2' ps Bs i x -> Pt L E Wb Xb b1 b2 ps Bs i x \/ (w.heap.size <= x /\ ((i = 4 /\ x = b1') \/ (i = 5 /\ x = b2'))):=fun i x hp=>by
  match i,hp with
  | 0,hp=>exact Or.inl hp
  | 1,hp=>exact Or.inl hp
  | 2,hp=>exact Or.inl hp
  | 3,hp=>exact Or.inl hp
  | 4,hp =>
   have hp : x = b1':=hp
   rcases e1 with ⟨e,-⟩ | e
   · exact Or.inl (hp.trans e)
   · exact Or.inr ⟨by omega,Or.inl ⟨rfl,hp⟩⟩
  | 5,hp =>
   have hp : x = b2':=hp
   rcases e2 with ⟨e,-⟩ | e
   · exact Or.inl (hp.trans e)
   · exact Or.inr ⟨by omega,Or.inr ⟨rfl,hp⟩⟩
  | a + 6,hp=>exact Or.inl hp
 have q1 : Rz w' 40 4 b1' c1' ((D ++ [e]).map He.dn):=by rw [List.map_append];exact r1
 have q2 : Rz w' 36 7 b2' c2' ((D ++ [e]).map He.ac):=by rw [List.map_append];exact r2
 have hne : b1' ≠ b2':=fun h=>by
  subst h
  obtain ⟨c,k1,-⟩:=q1.ex
  obtain ⟨c',k2,-⟩:=q2.ex
  rw [k1] at k2
  cases k2
 refine ⟨C.mm.only o (fun x h=>no 0 x (by decide) (by decide) h),C.vl,C.v.imp fun _ h=>h.only o (no 1 E (by decide) (by decide) rfl),below_only C.b o (fun x hx=>(hS x hx).elim (fun e=>C.ge 4 x e) (fun e=>C.ge 5 x e)),C.ar.of_block (o.block _ C.ar.lt (no 2 _ (by decide) (by decide) rfl)),C.xr.only o (no 3 _ (by decide) (by decide) rfl),C.xw,fun a t h=>(C.th a t h).only o (fun x hx=>no (a + 6) x (by omega) (by omega) ⟨by rw [h];simp,hx⟩),q1,q2,fun i x h=>?_,fun i j x h1 h2=>?_,fun i x h=>?_⟩
 · rcases pt i x h with h | ⟨-,⟨-,h⟩ | ⟨-,h⟩⟩
   · exact Nat.lt_of_lt_of_le (C.lt i x h) o.size
   · rw [h];exact q1.lt
   · rw [h];exact q2.lt
 · rcases pt i x h1 with k1 | ⟨g1,k1⟩
   · rcases pt j x h2 with k2 | ⟨g2,k2⟩
     · exact C.ap i j x k1 k2
     · have:=C.lt i x k1;omega
   · rcases pt j x h2 with k2 | ⟨g2,k2⟩
     · have:=C.lt j x k2;omega
     · omega
 · rcases pt i x h with h | ⟨h,-⟩
   · exact C.ge i x h
   · have:=C.b.size;omega
theorem Crew.clear (C : Crew w0 w L E Wb Xb b1 c1 b2 c2 who s σ q pn ps Bs xs D) : Crew w0 (w.setCell ⟨Wb,K,none⟩ (.pointer none)) L E Wb Xb b1 c1 b2 c2 who s σ q pn (upd ps K none) Bs xs D:=by
 have o : Only (fun b=>b = Wb) w (w.setCell ⟨Wb,K,none⟩ (.pointer none)):=(Only.refl (fun b=>b = Wb) w).setCell (a:=⟨Wb,K,none⟩) (fun _=>rfl) _
 have no : ∀ i x,i ≠ 2 -> Pt L E Wb Xb b1 b2 ps Bs i x -> ¬ x = Wb:=fun i x h1 h2 e=>h1 (C.ap i 2 x h2 e)
 have hs : ∀ a t,upd ps K none a = some t -> ps a = some t:=fun a t h=>by
  by_cases e : a = K
  · subst e;rw [upd_same] at h;cases h
  · rwa [upd_other _ _ _ _ e] at h
 refine ⟨C.mm.setIn (fun h=>no 0 Wb (by decide) h rfl) _ _,C.vl,C.v.imp fun _ h=>h.only o (no 1 E (by decide) rfl),below_setIn C.b (C.ge 2 Wb rfl) _ _,setP C _ (fun j _=>?_),C.xr.only o (no 3 _ (by decide) rfl),fun a t ht=>C.xw a t (hs a t ht),fun a t ht=>(C.th a t (hs a t ht)).only o (fun x hx=>no (a + 6) x (by omega) ⟨by rw [hs a t ht];simp,hx⟩),C.r1.only o (no 4 _ (by decide) rfl),C.r2.only o (no 5 _ (by decide) rfl),fun i x h=>Nat.lt_of_lt_of_le (C.lt i x (pt_none i x h)) o.size,fun i j x h1 h2=>C.ap i j x (pt_none i x h1) (pt_none j x h2),fun i x h=>C.ge i x (pt_none i x h)⟩
 by_cases e : j = K
 · subst e;rw [upd_same,if_pos rfl];rfl
 · rw [upd_other _ _ _ _ e,if_neg e]
end
end Go.Proofs.YtlolfmoolgenpaaGreat
