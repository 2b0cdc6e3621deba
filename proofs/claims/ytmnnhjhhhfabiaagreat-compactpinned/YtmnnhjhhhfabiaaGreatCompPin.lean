import Derived.Test.YtmnnhjhhhfabiaaGreatCompAwakeA
import Derived.Test.YtmnnhjhhhfabiaaGreatCompGnd
namespace Go.Proofs.YtmnnhjhhhfabiaaGreat
open Go.RowKit
section
def UsedY (nx : Nat) (y : Y) : Prop:=∀ i,i < nx -> 0 < (y.ck i).us
theorem used0 (y : Y) : UsedY 0 y:=fun _ h=>absurd h (Nat.not_lt_zero _)
theorem Mk.used {t n k m κ Z : Nat} {own : Bool} {q q' : Q} {nx nx' : Nat} {gen : Nat -> Nat} {ls ls' : List Ox} {E H : Int} (M : Mk t n k m κ Z own q nx gen ls q' nx' ls' E H) (U : UsedY nx q.y) : UsedY nx' q'.y:=by
 cases M with
 | empty hF=>exact U
 | full x F hF g=>exact U
 | ok x F y' nx' A i hF hx g =>
  have hr:=room_bd κ
  cases g with
  | fit _ h hu =>
   intro j hj
   show 0 < (upd q.y.ck i _ j).us
   by_cases e : j = i
   · subst e;rw [upd_same];show 0 < (q.y.ck j).us + room κ;omega
   · rw [upd_other _ _ _ _ e];exact U j hj
  | new hno h =>
   intro j hj
   show 0 < (upd q.y.ck nx _ j).us
   by_cases e : j = nx
   · subst e;rw [upd_same];show 0 < room κ;omega
   · rw [upd_other _ _ _ _ e];exact U j (by omega)
theorem Mk.db {t n k m κ Z : Nat} {own : Bool} {q q' : Q} {nx nx' : Nat} {gen : Nat -> Nat} {ls ls' : List Ox} {E H : Int} (M : Mk t n k m κ Z own q nx gen ls q' nx' ls' E H) : q'.db = q.db:=by
 cases M <;> rfl
section
variable {t n k m : Nat} {sp tr : Int} {s : Mm} {σ nx : Nat} {q : Q} {gen : Nat -> Nat}
end
end
section
structure Rowd where
 T : TypeId
 b : Nat
 cap : Nat
 l : List Value
structure Rowd.at (w0 w : World) (L : Loc) (E : Nat) (r : Rowd) : Prop where
 rw : Rw w r.T r.b r.cap r.l
 nl : ¬ L.has r.b
 w0 : w0.heap.size <= r.b
 ne : r.b ≠ E
structure Sc (p : Int) (w0 w : World) (L : Loc) (E t n k m : Nat) (who : Int) (s : Mm) (rs : List Rowd) : Prop where
 mm : MemAt w L s
 e : w.heap[E]? = some (.cells #[iV t,iV n,iV k,iV m,iV 100,iV p,iV 3,pP L.p 0,iV who] 28 (0,0))
 b : Below w0.heap.size w0 w
 rr : ∀ r ∈ rs,r.at w0 w L E
 nd : rs.Pairwise (fun r r'=>r.b ≠ r'.b)
 a : GndA w0 L E
section
variable {p : Int} {w0 w w' : World} {L : Loc} {E t n k m : Nat} {who : Int} {s s' : Mm} {rs : List Rowd}
theorem Rowd.at.grown {r : Rowd} (h : r.at w0 w L E) (g : Below w.heap.size w w') : r.at w0 w' L E:=⟨h.rw.grown g,h.nl,h.w0,h.ne⟩
theorem Rowd.at.only {r : Rowd} {S : Nat -> Prop} (h : r.at w0 w L E) (o : Only S w w') (hs : ¬ S r.b) : r.at w0 w' L E:=⟨h.rw.only o hs,h.nl,h.w0,h.ne⟩
theorem Sc.v (h : Sc p w0 w L E t n k m who s rs) : BoxV w E t n k m 100 p 3 L.p who :=
 ⟨blk_cell h.e rfl,blk_cell h.e rfl,blk_cell h.e rfl,blk_cell h.e rfl,blk_cell h.e rfl,blk_cell h.e rfl,blk_cell h.e rfl,blk_cell h.e rfl,blk_cell h.e rfl⟩
theorem Sc.fz (h : Sc p w0 w L E t n k m who s rs) (o : Nat) : w.frozen? ⟨E,o,none⟩ = false:=blk_frozen h.e o
theorem Sc.ltE (f : Sc p w0 w L E t n k m who s rs) : E < w.heap.size:=blk_lt f.e
theorem Sc.grown (f : Sc p w0 w L E t n k m who s rs) (g : Below w.heap.size w w') : Sc p w0 w' L E t n k m who s rs :=
 ⟨f.mm.below g,(g.block _ f.ltE).trans f.e,grow f.b g,fun r hr=>(f.rr r hr).grown g,f.nd,f.a⟩
theorem Sc.drew (f : Sc p w0 w L E t n k m who s rs) : Sc p w0 w.drew L E t n k m who s rs:=f.grown ((Below.refl _ _).drew)
theorem Sc.mem (f : Sc p w0 w L E t n k m who s rs) (o : Only L.has w w') (mm : MemAt w' L s') : Sc p w0 w' L E t n k m who s' rs :=
 ⟨mm,(o.block _ f.ltE f.a.e).trans f.e,mgrow f.b o f.a.l0,fun r hr=>(f.rr r hr).only o (f.rr r hr).nl,f.nd,f.a⟩
theorem Sc.own (f : Sc p w0 w L E t n k m who s rs) {b : Nat} (o : Only (fun x=>x = b) w w') (h0 : w0.heap.size <= b) (he : b ≠ E) (hl : ¬ L.has b) (hr : ∀ r ∈ rs,r.b ≠ b) : Sc p w0 w' L E t n k m who s rs :=
 ⟨f.mm.only o (fun _ hx e=>hl (e ▸ hx)),(o.block _ f.ltE (fun e=>he e.symm)).trans f.e,ogrow f.b o (fun _ e=>e ▸ h0),fun r h=>(f.rr r h).only o (hr r h),f.nd,f.a⟩
theorem Sc.but {K : Nat -> Prop} (f : Sc p w0 w L E t n k m who s rs) (o : Only (fun y=>¬ K y) w w') (mm : MemAt w' L s') (hK : ∀ y,y < w0.heap.size \/ y = E \/ (∃ r ∈ rs,y = r.b) -> K y) : Sc p w0 w' L E t n k m who s' rs :=
 ⟨mm,(o.block _ f.ltE (fun hh=>hh (hK _ (Or.inr (Or.inl rfl))))).trans f.e,ogrow f.b o (fun x hx=>by
  have : ¬ x < w0.heap.size:=fun e=>hx (hK _ (Or.inl e))
  omega),fun r hr=>(f.rr r hr).only o (fun hh=>hh (hK _ (Or.inr (Or.inr ⟨r,hr,rfl⟩)))),f.nd,f.a⟩
theorem Sc.row (f : Sc p w0 w L E t n k m who s rs) {r : Rowd} (h : r ∈ rs) : r.at w0 w L E:=f.rr r h
theorem Sc.lt {r : Rowd} (f : Sc p w0 w L E t n k m who s rs) (h : r ∈ rs) : r.b < w.heap.size:=(f.rr r h).rw.lt
theorem Sc.new (f : Sc p w0 w L E t n k m who s rs) {D : Nat} (h : w.heap.size <= D) : w0.heap.size <= D /\ D ≠ E /\ ¬ L.has D /\ ∀ r ∈ rs,r.b ≠ D :=
 ⟨by have:=f.b.size;omega,by have:=f.ltE;omega,fun hh=>by have:=f.mm.lt _ hh;omega,fun r hr=>by have:=f.lt hr;omega⟩
theorem Sc.more (f : Sc p w0 w L E t n k m who s rs) {r : Rowd} (h : r.at w0 w L E) (hn : ∀ r' ∈ rs,r.b ≠ r'.b) : Sc p w0 w L E t n k m who s (r :: rs) :=
 ⟨f.mm,f.e,f.b,fun r' hr=>(List.mem_cons.1 hr).elim (fun e=>e ▸ h) (f.rr r'),List.pairwise_cons.2 ⟨hn,f.nd⟩,f.a⟩
theorem Sc.first {r r' : Rowd} (f : Sc p w0 w L E t n k m who s (r :: rs)) (o : Only (fun x=>x = r.b) w w') (h : Rw w' r'.T r'.b r'.cap r'.l) (hb : r'.b = r.b \/ w.heap.size <= r'.b) : Sc p w0 w' L E t n k m who s (r' :: rs):=by
 have h0:=f.rr r List.mem_cons_self
 have hnd:=List.pairwise_cons.1 f.nd
 have f1 : Sc p w0 w' L E t n k m who s rs:=Sc.own (rs:=rs) ⟨f.mm,f.e,f.b,fun r'' hr=>f.rr r'' (List.mem_cons_of_mem _ hr),hnd.2,f.a⟩ o h0.w0 h0.ne h0.nl (fun r'' hr e=>hnd.1 r'' hr e.symm)
 rcases hb with e | e
 · exact f1.more ⟨h,e ▸ h0.nl,e ▸ h0.w0,e ▸ h0.ne⟩ (fun r'' hr=>e ▸ hnd.1 r'' hr)
 · obtain ⟨n1,n2,n3,n4⟩:=f.new e
   exact f1.more ⟨h,n3,n1,n2⟩ (fun r'' hr e'=>n4 r'' (List.mem_cons_of_mem _ hr) e'.symm)
end
theorem Ranch.fate {t n k m σ nx κ Z : Nat} {cg cp cr : Int} {s : Mm} {z : Zt} {gen : Nat -> Nat} {own : Bool} {L : Loc} {ls : List Ox} (R : Ranch t n k m s σ z nx gen ls) (hG : Good t n k m cg cp cr) (z1 : 1 <= Z) (z2 : Z <= 16) (kz : classOf Z = κ) (hκ : κ < 4) (hσ : σ + 400 < 1000000) (wh : Int) :
 ∃ (E H : Int) (q' : Q) (nx' : Nat) (ls' : List Ox),Mk t n k m κ Z own z.q nx gen ls q' nx' ls' E H /\ ∀ w : World,MemAt w L s -> Calls Tryz.prog 11 #[eV t n k m cg cp cr L.p wh,iV Z,.bool own] w fun e w'=>∃ (st : Nat) (s' : Mm) (σ' : Nat),e = .returned (.agg #[iV E,.int .u64 H,iV 0,iV st]) /\ MemAt w' L s' /\ Ranch t n k m s' σ' { z with q:=q' } nx' gen ls' /\ σ' <= σ + 100 /\ Only L.has w w':=by
 have hn:=R.ld.tw.pile.big
 have hk:=hG.k1
 cases hF : z.q.F with
 | nil =>
  refine ⟨7,0,z.q,nx,ls,.empty hF,fun w h=>?_⟩
  refine (make_far (own:=own) wh h R.ld.tw hG (class_fit z2) kz hκ hσ (N:=1) (by omega) (runs_none hF)).mono ?_
  rintro e w' ⟨rfl,s',m',t',o',f'⟩
  exact ⟨_,s',_,rfl,m',⟨R.ld.far t' f' R.ld.dww,R.tm,R.hd⟩,by omega,o'⟩
 | cons x F =>
  obtain ⟨N,y1,nx1,τ1,hN,go,g1⟩:=alone_goes (bs:=base t n k m) R.tm.al hκ hG.n0 hG.k0 hG.k1
  have hx : x < n:=R.ld.tw.pile.lt x (by rw [hF];simp)
  have hg:=R.tm.gen_is (by rw [hF];simp) hx
  have done : ∀ A i,τ1 = .won A i -> ∃ (E H : Int) (q' : Q) (nx' : Nat) (ls' : List Ox),Mk t n k m κ Z own z.q nx gen ls q' nx' ls' E H /\ ∀ w : World,MemAt w L s -> Calls Tryz.prog 11 #[eV t n k m cg cp cr L.p wh,iV Z,.bool own] w fun e w'=>∃ (st : Nat) (s' : Mm) (σ' : Nat),e = .returned (.agg #[iV E,.int .u64 H,iV 0,iV st]) /\ MemAt w' L s' /\ Ranch t n k m s' σ' { z with q:=q' } nx' gen ls' /\ σ' <= σ + 100 /\ Only L.has w w':=by
   rintro A i rfl
   refine ⟨0,packH x (gen x),_,_,_,.ok x F y1 nx1 A i hF hx g1,fun w h=>?_⟩
   have r:=runs_made (z:=(Z : Int)) (own:=own) (σ:=σ) hF go
   rw [hg] at r
   refine (make_far wh h R.ld.tw hG (class_fit z2) kz hκ hσ (N:=N + 4 + 4) (by omega) r).mono ?_
   rintro e w' ⟨rfl,s',m',t',o',f'⟩
   have T':=R.tm.made (own:=own) hκ hG.n0 z1 z2 kz hF R.ld.tw.pile.nd hx g1
   exact ⟨_,s',_,rfl,m',⟨R.ld.far t' f' T'.wb,T',R.hd.made R.tm hG.sixh hn hκ z1 z2 kz hF R.ld.tw.pile.nd hx g1⟩,by omega,o'⟩
  cases g1 with
  | fit i h1 h2=>exact done _ _ rfl
  | new h1 h2=>exact done _ _ rfl
  | none h1 h2 =>
   refine ⟨6,0,z.q.back x F z.q.y,nx,ls,.full x F hF (.none h1 h2),fun w h=>?_⟩
   refine (make_far (own:=own) wh h R.ld.tw hG (class_fit z2) kz hκ hσ (N:=N + 3 + 4) (by omega) (runs_back hF go)).mono ?_
   rintro e w' ⟨rfl,s',m',t',o',f'⟩
   exact ⟨_,s',_,rfl,m',⟨R.ld.far t' f' R.ld.dww,R.tm.back hF,R.hd.back x F⟩,by omega,o'⟩
def hsO (ls : List Ox) : List Value:=ls.reverse.map (fun o=>.int .u64 (packH o.x o.g))
theorem hsO_len (ls : List Ox) : (hsO ls).length = ls.length:=by simp [hsO]
theorem hsO_cons (o : Ox) (ls : List Ox) : hsO (o :: ls) = hsO ls ++ [.int .u64 (packH o.x o.g)]:=by simp [hsO]
structure MadeI (nx : Nat) (q : Q) (ls : List Ox) (j : Nat) : Prop where
 len : ls.length <= j
 us : UsedY nx q.y
 db : ∀ i,q.db i = 0
 g1 : ∀ o ∈ ls,o.g = 1 /\ o.own = false
theorem made0 (n : Nat) : MadeI 0 (Q.new n) [] 0:=⟨Nat.le_refl _,used0 _,fun _=>rfl,fun _ h=>(by cases h)⟩
theorem Mk.madeI {t n k m κ Z : Nat} {q q' : Q} {nx nx' : Nat} {ls ls' : List Ox} {E H : Int} {j : Nat} (M : Mk t n k m κ Z false q nx (fun _=>1) ls q' nx' ls' E H) (I : MadeI nx q ls j) :
 MadeI nx' q' ls' (j + 1) /\ ((E = 0 /\ ∃ o,ls' = o :: ls /\ H = packH o.x o.g) \/ ((E = 6 \/ E = 7) /\ ls' = ls /\ nx' = nx)):=by
 have U:=M.used I.us
 have D : ∀ i,q'.db i = 0:=fun i=>by rw [M.db];exact I.db i
 have hl:=I.len
 cases M with
 | empty hF=>exact ⟨⟨by omega,U,D,I.g1⟩,Or.inr ⟨Or.inr rfl,rfl,rfl⟩⟩
 | full x F hF g=>exact ⟨⟨by omega,U,D,I.g1⟩,Or.inr ⟨Or.inl rfl,rfl,rfl⟩⟩
 | ok x F y' nx' A i hF hx g=>exact ⟨⟨by simp only [List.length_cons];omega,U,D,fun o h=>(List.mem_cons.1 h).elim (fun e=>e ▸ ⟨rfl,rfl⟩) (I.g1 o)⟩,Or.inl ⟨rfl,_,rfl,rfl⟩⟩
def leftO (ls : List Ox) (d : Nat) : List Ox:=ls.take (ls.length - d)
theorem leftO_0 (ls : List Ox) : leftO ls 0 = ls:=by simp [leftO]
theorem leftO_all (ls : List Ox) : leftO ls ls.length = []:=by simp [leftO]
theorem leftO_next (ls : List Ox) {d : Nat} (h : d < ls.length) : ∃ o ∈ ls,leftO ls d = leftO ls (d + 1) ++ o :: [] /\ (hsO ls)[d]? = some (.int .u64 (packH o.x o.g)):=by
 have hlt : ls.length - (d + 1) < ls.length:=by omega
 refine ⟨ls[ls.length - (d + 1)],List.getElem_mem hlt,?_,?_⟩
 · unfold leftO
   rw [show ls.length - d = ls.length - (d + 1) + 1 by omega,List.take_add_one,List.getElem?_eq_getElem hlt]
   rfl
 · unfold hsO
   rw [List.getElem?_map,List.getElem?_reverse h,show ls.length - 1 - d = ls.length - (d + 1) by omega,List.getElem?_eq_getElem hlt]
   rfl
theorem Ranch.drops {t n k m σ nx d : Nat} {cg cp cr : Int} {s : Mm} {z : Zt} {gen : Nat -> Nat} {L : Loc} {ls : List Ox} (R : Ranch t n k m s σ z nx gen (leftO ls d)) (hG : Good t n k m cg cp cr) (hd : d < ls.length) (h1 : ∀ o ∈ ls,o.g = 1 /\ o.own = false) (hσ : σ + 200 < 1000000) (wh : Int) (hcg : 1 < cg:=by decide) :
 ∃ H : Int,(hsO ls)[d]? = some (.int .u64 H) /\ ∃ (q' : Q) (gen' : Nat -> Nat),q'.y = z.q.y /\ q'.db = z.q.db /\ ∀ w : World,MemAt w L s -> Calls Tryz.prog 16 #[eV t n k m cg cp cr L.p wh,.int .u64 H,.bool false] w fun e w'=>∃ (st : Int) (s' : Mm) (σ' : Nat),e = .returned (.agg #[iV 0,.int .u64 0,iV 0,iV st]) /\ MemAt w' L s' /\ Ranch t n k m s' σ' { z with q:=q' } nx gen' (leftO ls (d + 1)) /\ σ' <= σ + 40 /\ Only L.has w w':=by
 obtain ⟨o,ho,e1,e2⟩:=leftO_next ls hd
 obtain ⟨g1,g2⟩:=h1 o ho
 rw [e1] at R
 refine ⟨_,e2,z.q.gone cg o.x (z.q.sw o.x) o.Z o.i,upd gen o.x (o.g + 1),rfl,rfl,fun w h=>?_⟩
 have k:=Ranch.drop h R hG (by rw [g1];exact hcg) hσ wh
 rw [g2,List.append_nil] at k
 exact k
end
section
def Zt.old (z : Zt) (i : Nat) : Bool:=decide ((z.q.y.ck i).st = 3 /\ z.si i + 1 <= z.ep)
theorem cntB_four {f g h l : Nat -> Bool} : ∀ k,(∀ i,i < k -> (if f i = true then 1 else 0) + (if g i = true then 1 else 0) = (if h i = true then 1 else 0) + (if l i = true then 1 else (0 : Nat))) -> cntB f k + cntB g k = cntB h k + cntB l k
 | 0,_=>rfl
 | k + 1,e=>by
  have h1:=cntB_four k (fun i hi=>e i (by omega))
  have h2:=e k (by omega)
  show cntB f k + _ + (cntB g k + _) = cntB h k + _ + (cntB l k + _)
  omega
section
variable {t n k m : Nat} {sp tr : Int} {R : Nat}
structure DQ (t n k m : Nat) (sp tr : Int) (σ : Nat) (z : Zt) : Prop where
 cm : z.calm k m σ
 e0 : 0 <= z.ep
 e1 : z.ep <= σ
 si : ∀ i,i < k -> 0 <= z.si i
 qs : ∀ i,i < k -> (z.q.y.ck i).st = 3 -> z.si i <= z.ep
 gn : ∀ i,i < k -> z.may sp i = true -> (∃ j,(z.q.y.ck i).us = j * room (z.q.y.ck i).cl) /\ ∀ j,j * room (z.q.y.ck i).cl < (z.q.y.ck i).us -> z.gone t n k m tr i (z.q.y.ck i) (j * room (z.q.y.ck i).cl)
 nt : ∀ i,i < k -> ∀ u,(z.q.y.ck i).us <= u -> u < m -> z.q.dw (base t n k m i + u) = 0
 fu : ∀ i,i < k -> (z.q.y.ck i).st = 0 -> (z.q.y.ck i).us = 0
theorem DQ.pins {σ σ' : Nat} {z : Zt} (D : DQ t n k m sp tr σ z) (h : σ <= σ') (pn : Nat -> Int) : DQ t n k m sp tr σ' { z with pn:=pn } :=
 ⟨⟨fun i hi=>(D.cm.ok i hi).up h,D.cm.op,D.cm.us,D.cm.lv⟩,D.e0,by have:=D.e1;show z.ep <= _;omega,D.si,D.qs,D.gn,D.nt,D.fu⟩
theorem DQ.round {σ : Nat} {z : Zt} {wk : Wk} {id : Nat} (D : DQ t n k m sp tr σ z) (hpin : ∀ j,j < t -> z.pn j = 0) (hw : wk.le 990000) (hid : id <= 990000) (hk0 : 0 < k) (hk : k <= 8) (ht : t <= 8) (hm : m <= 256) (hσ : σ + 4000 <= 990000) :
 ∃ (N : Nat) (z' : Zt) (e id' : Nat),N <= 3000 /\ e <= 1 /\ Path t n k m sp tr wk.rd N σ z ⟨.see [],wk,wk,id⟩ z' ⟨.see [],⟨wk.ev + e,wk.lf,wk.fr + cntB z.old k,wk.mv,wk.rd + 1⟩,⟨wk.ev + e,wk.lf,wk.fr + cntB z.old k,wk.mv,wk.rd + 1⟩,id'⟩ /\ id' <= id + 1 /\
  DI t n k m sp tr (σ + N) z' /\ cntB (z.may sp) k = cntB (z'.may sp) k + e /\ cntB z'.isQ k + cntB z.old k = cntB z.isQ k + e:=by
 obtain ⟨w1,w2,w3,w4,w5⟩:=hw
 obtain ⟨N,z1,e,⟨hNk,hN⟩,pk,cm3,P⟩:=round_dead (t:=t) (n:=n) (tr:=tr) (R:=wk.rd) (cp:=⟨.see [],wk,wk,id⟩) rfl ⟨by show wk.ev <= _;omega,by show wk.lf <= _;omega,by show wk.fr <= _;omega,by show wk.mv <= _;omega,by show wk.rd <= _;omega⟩ (by show id <= _;omega) hk0 hk ht hm D.cm (by omega) D.e0 D.si D.gn
 have hpn : z1.pn = z.pn /\ z1.ep = z.ep /\ z1.q.sw = z.q.sw /\ z1.q.dw = z.q.dw /\ z1.q.lv = z.q.lv /\ z1.q.y.op = z.q.y.op:=by
  cases pk <;> exact ⟨rfl,rfl,rfl,rfl,rfl,rfl⟩
 obtain ⟨p1,p2,p3,p4,p5,p6⟩:=hpn
 have hgo : z1.goes t = true:=decide_eq_true (fun j hj=>by rw [p1,hpin j hj];rfl)
 have he0:=D.e0
 have he1:=D.e1
 have hep : sum64 z.ep 1 = z.ep + 1:=by unfold sum64;omega
 rw [hgo] at P cm3
 have ez2 : z1.went true = { z1 with ep:=z.ep + 1 }:=by
  unfold Zt.went
  rw [if_pos rfl,p2,hep]
 rw [ez2] at P cm3
 -- who is picked
 obtain ⟨a,hak,hea,hma,hck,hsi⟩ : ∃ a : Nat,(e = 1 -> a < k) /\ (e = 0 -> a = k) /\ (e = 1 -> z.may sp a = true) /\ (∀ i,i < k -> z1.q.y.ck i = if i = a then ⟨3,(z.q.y.ck i).cl,(z.q.y.ck i).us,(z.q.y.ck i).sp + 2⟩ else z.q.y.ck i) /\ (∀ i,i < k -> z1.si i = if i = a then z.ep else z.si i):=by
  cases pk with
  | none h=>exact ⟨k,fun h=>by omega,fun _=>rfl,fun h=>by omega,fun i hi=>by rw [if_neg (by omega)],fun i hi=>by rw [if_neg (by omega)]⟩
  | some a ha hm hl =>
   refine ⟨a,fun _=>ha,fun h=>by omega,fun _=>hm,fun i hi=>?_,fun i hi=>?_⟩
   · show upd z.q.y.ck a _ i = _
     by_cases e : i = a
     · subst e;rw [upd_same,if_pos rfl]
     · rw [upd_other _ _ _ _ e,if_neg e]
   · show upd z.si a z.ep i = _
     by_cases e : i = a
     · subst e;rw [upd_same,if_pos rfl]
     · rw [upd_other _ _ _ _ e,if_neg e]
 have he : e = 0 \/ e = 1:=by cases pk <;> simp
 have hno : e = 0 -> ∀ i,i < k -> z.may sp i = false:=by
  cases pk with
  | none h=>exact fun _=>h
  | some a ha hm hl=>exact fun h=>by omega
 have hdue : ∀ i,i < k -> ({ z1 with ep:=z.ep + 1 } : Zt).due i = z.old i:=fun i hi=>by
  apply decide_eq_decide.2
  show (z1.q.y.ck i).st = 3 /\ z1.si i + 2 <= z.ep + 1 ↔ _
  rw [hck i hi,hsi i hi]
  by_cases ei : i = a
  · rw [if_pos ei,if_pos ei]
    have he1 : e = 1:=by
     rcases he with h | h
     · have:=hea h;omega
     · exact h
    have hm:=hma he1
    rw [<- ei] at hm
    have:=(of_decide_eq_true hm).1
    constructor
    · rintro ⟨_,h⟩;omega
    · intro h;omega
  · rw [if_neg ei,if_neg ei]
    constructor
    · exact fun h=>⟨h.1,by omega⟩
    · intro h;exact ⟨h.1,by omega⟩
 obtain ⟨z',hz'⟩ : ∃ z',({ z1 with ep:=z.ep + 1 } : Zt).settled t n k m k 0 false = z':=⟨_,rfl⟩
 have c' : ∀ i,i < k -> z'.q.y.ck i = if z.old i = true then ⟨0,0,0,(z1.q.y.ck i).sp + 1⟩ else z1.q.y.ck i:=fun i hi=>by
  rw [<- hz']
  show (if i < k /\ ({ z1 with ep:=z.ep + 1 } : Zt).due i = true then (⟨0,0,0,(z1.q.y.ck i).sp + 1⟩ : Ck) else z1.q.y.ck i) = _
  rw [hdue i hi]
  by_cases h : z.old i = true
  · rw [if_pos h,if_pos ⟨hi,h⟩]
  · rw [if_neg h,if_neg (fun g=>h g.2)]
 have l' : ∀ i,i < k -> z'.q.lv i = if z.old i = true then 0 else z.q.lv i:=fun i hi=>by
  rw [<- hz',<- p5]
  show (if (i < k \/ i = k /\ false = true) /\ ({ z1 with ep:=z.ep + 1 } : Zt).due i = true then 0 else z1.q.lv i) = _
  rw [hdue i hi]
  by_cases h : z.old i = true
  · rw [if_pos h,if_pos ⟨Or.inl hi,h⟩]
  · rw [if_neg h,if_neg (fun g=>h g.2)]
 have o' : z'.q.y.op = z.q.y.op:=by rw [<- hz'];exact p6
 have s' : z'.q.sw = z.q.sw:=by rw [<- hz'];exact p3
 have n' : z'.pn = z.pn:=by rw [<- hz'];exact p1
 have ep' : z'.ep = z.ep + 1:=by rw [<- hz'];rfl
 have i' : z'.si = z1.si:=by rw [<- hz'];rfl
 have d' : ∀ i,i < k -> ∀ u,u < m -> z'.q.dw (base t n k m i + u) = if z.old i = true /\ u < (z1.q.y.ck i).us then 0 else z.q.dw (base t n k m i + u):=fun i hi u hu=>by
  rw [<- hz',<- p4]
  have hb:=inCk_base (t:=t) (n:=n) (k:=k) (m:=m) (i:=i) hu
  show Zt.wdAt t n k m { z1 with ep:=z.ep + 1 } k 0 (base t n k m i + u) = _
  unfold Zt.wdAt
  rw [hb.1,hb.2,hdue i hi]
  by_cases h : z.old i = true /\ u < (z1.q.y.ck i).us
  · rw [if_pos h,if_pos ⟨by unfold base;omega,h.1,h.2,Or.inl hi⟩]
  · rw [if_neg h,if_neg (fun g=>h ⟨g.2.1,g.2.2.1⟩)]
 -- one that may be evacuated does not wait
 have mq : ∀ i,z.may sp i = true -> z.old i = false:=fun i h=>decide_eq_false (fun g=>by have:=(of_decide_eq_true h).1;omega)
 have mq3 : ∀ i,z.may sp i = true -> z.isQ i = false:=fun i h=>decide_eq_false (fun g=>by have:=(of_decide_eq_true h).1;omega)
 have hMay : ∀ i,i < k -> z'.may sp i = (z.may sp i && decide (i ≠ a)):=fun i hi=>by
  by_cases hq : z.old i = true
  · have hm : z.may sp i = false:=by
     cases h : z.may sp i
     · rfl
     · rw [mq i h] at hq;cases hq
    rw [hm,Bool.false_and]
    apply decide_eq_false
    rw [c' i hi,if_pos hq]
    rintro ⟨h,_⟩
    cases h
  · by_cases ei : i = a
    · rw [decide_eq_false (fun h=>h ei),Bool.and_false]
      apply decide_eq_false
      rw [c' i hi,if_neg hq,hck i hi,if_pos ei]
      rintro ⟨h,_⟩
      cases h
    · rw [decide_eq_true ei,Bool.and_true]
      apply decide_eq_decide.2
      unfold Y.isOpen
      rw [c' i hi,if_neg hq,hck i hi,if_neg ei,l' i hi,if_neg hq,o']
 have hst : ∀ i,i < k -> (z'.q.y.ck i).st = if z.old i = true then 0 else if i = a then 3 else (z.q.y.ck i).st:=fun i hi=>by
  rw [c' i hi,hck i hi]
  by_cases hq : z.old i = true
  · rw [if_pos hq,if_pos hq]
  · rw [if_neg hq,if_neg hq]
    by_cases ei : i = a
    · rw [if_pos ei,if_pos ei]
    · rw [if_neg ei,if_neg ei]
 rw [hz'] at P cm3
 obtain ⟨id',er,hid'⟩ : ∃ id' : Nat,(⟨.see [],wk,wk,id⟩ : Cp).round e { z1 with ep:=z.ep + 1 } k = ⟨.see [],⟨wk.ev + e,wk.lf,wk.fr + cntB z.old k,wk.mv,wk.rd + 1⟩,⟨wk.ev + e,wk.lf,wk.fr + cntB z.old k,wk.mv,wk.rd + 1⟩,id'⟩ /\ id' <= id + 1:=by
  have ed : dueN { z1 with ep:=z.ep + 1 } k = cntB z.old k:=by rw [dueN_cnt];exact cntB_congr k hdue
  unfold Cp.round Cp.past Cp.endR
  rw [ed]
  refine ⟨_,rfl,?_⟩
  simp only
  split <;> omega
 rw [er] at P
 have e1k : e = 1 -> cntB (fun i=>decide (i = a)) k = 1:=fun h=>by rw [cntB_one,if_pos (hak h)]
 have e0k : e = 0 -> cntB (fun i=>decide (i = a)) k = 0:=fun h=>by rw [cntB_one,hea h,if_neg (Nat.lt_irrefl _)]
 have hek : cntB (fun i=>decide (i = a)) k = e:=he.elim (fun h=>by rw [e0k h,h]) (fun h=>by rw [e1k h,h])
 have hia : ∀ i,i < k -> i = a -> z.may sp i = true:=fun i hi ei=>by
  rcases he with h | h
  · have:=hea h;omega
  · rw [ei];exact hma h
 refine ⟨N,z',e,id',hN,by omega,P,hid',⟨cm3,fun j hj=>by rw [n'];exact hpin j hj,by rw [ep'];omega,by rw [ep'];omega,fun i hi=>?_,fun i hi h=>?_,fun i hi h=>?_,fun i hi u h1 h2=>?_,fun i hi h=>?_⟩,?_,?_⟩
 · rw [i',hsi i hi]
   have:=D.si i hi
   split <;> omega
 · rw [i',hsi i hi,ep']
   rw [hst i hi] at h
   by_cases hq : z.old i = true
   · rw [if_pos hq] at h;cases h
   · rw [if_neg hq] at h
     by_cases ei : i = a
     · rw [if_pos ei];omega
     · rw [if_neg ei] at h ⊢
       have:=D.qs i hi h
       omega
 · rw [hMay i hi] at h
   have hm:=(Bool.and_eq_true_iff.1 h).1
   have ei:=of_decide_eq_true (Bool.and_eq_true_iff.1 h).2
   have hq:=mq i hm
   obtain ⟨g1,g2⟩:=D.gn i hi hm
   rw [c' i hi,if_neg (by rw [hq];decide),hck i hi,if_neg ei]
   refine ⟨g1,fun j hj=>?_⟩
   have hus:=D.cm.us i hi
   have hd:=d' i hi (j * room (z.q.y.ck i).cl) (by omega)
   rw [hq,if_neg (fun g=>by cases g.1)] at hd
   have:=g2 j hj
   unfold Zt.gone at this ⊢
   rw [hd,s']
   exact this
 · rw [d' i hi u h2]
   rw [c' i hi] at h1
   by_cases hq : z.old i = true
   · by_cases h : u < (z1.q.y.ck i).us
     · rw [if_pos ⟨hq,h⟩]
     · rw [if_neg (fun g=>h g.2)]
       have : (z1.q.y.ck i).us = (z.q.y.ck i).us:=by rw [hck i hi];split <;> rfl
       exact D.nt i hi u (by omega) h2
   · rw [if_neg (fun g=>hq g.1)]
     rw [if_neg hq] at h1
     have : (z1.q.y.ck i).us = (z.q.y.ck i).us:=by rw [hck i hi];split <;> rfl
     exact D.nt i hi u (by omega) h2
 · rw [hst i hi] at h
   rw [c' i hi]
   by_cases hq : z.old i = true
   · rw [if_pos hq]
   · rw [if_neg hq] at h ⊢
     rw [hck i hi]
     by_cases ei : i = a
     · rw [if_pos ei] at h;cases h
     · rw [if_neg ei] at h ⊢;exact D.fu i hi h
 · have:=cntB_four (f:=z.may sp) (g:=fun _=>false) (h:=z'.may sp) (l:=fun i=>decide (i = a)) k (fun i hi=>by
    rw [hMay i hi]
    by_cases ei : i = a
    · rw [hia i hi ei,decide_eq_true ei,decide_eq_false (fun g=>g ei)];rfl
    · rw [decide_eq_true ei,decide_eq_false ei,Bool.and_true])
   rw [hek,cntB_none k (f:=fun _=>false) (fun _ _=>rfl)] at this
   exact this
 · rw [<- hek]
   refine cntB_four k (fun i hi=>?_)
   have e1 : z'.isQ i = decide ((if z.old i = true then 0 else if i = a then 3 else (z.q.y.ck i).st) = 3):=by unfold Zt.isQ;rw [hst i hi]
   rw [e1]
   by_cases hq : z.old i = true
   · have h3 : z.isQ i = true:=decide_eq_true (of_decide_eq_true hq).1
     have ei : i ≠ a:=fun g=>by rw [mq i (hia i hi g)] at hq;cases hq
     rw [if_pos hq,hq,h3,decide_eq_false ei];rfl
   · have hqf : z.old i = false:=by cases h : z.old i;rfl;exact absurd h hq
     rw [if_neg hq,hqf]
     by_cases ei : i = a
     · rw [if_pos ei,mq3 i (hia i hi ei),decide_eq_true ei];rfl
     · rw [if_neg ei,decide_eq_false ei];rfl
structure DP (t n k m : Nat) (sp tr : Int) (σ who : Nat) (z : Zt) : Prop where
 d : DQ t n k m sp tr σ z
 e : z.ep = 0 \/ z.ep = 1
 p : z.pn who = 1
 o : ∀ j,j < t -> j ≠ who -> z.pn j = 0
 w : who < t
theorem DP.round {σ who : Nat} {z : Zt} {wk : Wk} {id : Nat} (D : DP t n k m sp tr σ who z) (hw : wk.le 990000) (hid : id <= 990000) (hk0 : 0 < k) (hk : k <= 8) (ht : t <= 8) (hm : m <= 256) (hσ : σ + 4000 <= 990000) :
 ∃ (N : Nat) (z' : Zt) (e id' : Nat),N <= 3000 /\ e <= 1 /\ Path t n k m sp tr wk.rd N σ z ⟨.see [],wk,wk,id⟩ z' ⟨.see [],⟨wk.ev + e,wk.lf,wk.fr,wk.mv,wk.rd + 1⟩,⟨wk.ev + e,wk.lf,wk.fr,wk.mv,wk.rd + 1⟩,id'⟩ /\ id' <= id + 1 /\
  DP t n k m sp tr (σ + N) who z' /\ cntB (z.may sp) k = cntB (z'.may sp) k + e /\ cntB z'.isQ k = cntB z.isQ k + e /\ (e = 0 -> cntB (z.may sp) k = 0):=by
 obtain ⟨w1,w2,w3,w4,w5⟩:=hw
 have DD:=D.d
 obtain ⟨N,z1,e,⟨hNk,hN⟩,pk,cm3,P⟩:=round_dead (t:=t) (n:=n) (tr:=tr) (R:=wk.rd) (cp:=⟨.see [],wk,wk,id⟩) rfl ⟨by show wk.ev <= _;omega,by show wk.lf <= _;omega,by show wk.fr <= _;omega,by show wk.mv <= _;omega,by show wk.rd <= _;omega⟩ (by show id <= _;omega) hk0 hk ht hm DD.cm (by omega) DD.e0 DD.si DD.gn
 have hpn : z1.pn = z.pn /\ z1.ep = z.ep /\ z1.q.sw = z.q.sw /\ z1.q.dw = z.q.dw /\ z1.q.lv = z.q.lv /\ z1.q.y.op = z.q.y.op:=by
  cases pk <;> exact ⟨rfl,rfl,rfl,rfl,rfl,rfl⟩
 obtain ⟨p1,p2,p3,p4,p5,p6⟩:=hpn
 have he0:=DD.e0
 have he1:=DD.e1
 obtain ⟨a,hak,hea,hma,hck,hsi⟩ : ∃ a : Nat,(e = 1 -> a < k) /\ (e = 0 -> a = k) /\ (e = 1 -> z.may sp a = true) /\ (∀ i,i < k -> z1.q.y.ck i = if i = a then ⟨3,(z.q.y.ck i).cl,(z.q.y.ck i).us,(z.q.y.ck i).sp + 2⟩ else z.q.y.ck i) /\ (∀ i,i < k -> z1.si i = if i = a then z.ep else z.si i):=by
  cases pk with
  | none h=>exact ⟨k,fun h=>by omega,fun _=>rfl,fun h=>by omega,fun i hi=>by rw [if_neg (by omega)],fun i hi=>by rw [if_neg (by omega)]⟩
  | some a ha hm hl =>
   refine ⟨a,fun _=>ha,fun h=>by omega,fun _=>hm,fun i hi=>?_,fun i hi=>?_⟩
   · show upd z.q.y.ck a _ i = _
     by_cases e : i = a
     · subst e;rw [upd_same,if_pos rfl]
     · rw [upd_other _ _ _ _ e,if_neg e]
   · show upd z.si a z.ep i = _
     by_cases e : i = a
     · subst e;rw [upd_same,if_pos rfl]
     · rw [upd_other _ _ _ _ e,if_neg e]
 have he : e = 0 \/ e = 1:=by cases pk <;> simp
 have hno : e = 0 -> ∀ i,i < k -> z.may sp i = false:=by
  cases pk with
  | none h=>exact fun _=>h
  | some a ha hm hl=>exact fun h=>by omega
 -- the epoch: it goes on once
 obtain ⟨E',hE',hE01⟩ : ∃ E' : Int,z1.went (z1.goes t) = { z1 with ep:=E' } /\ ((E' = 1) /\ (z.ep = 0 \/ z.ep = 1)):=by
  rcases D.e with h0 | h0
  · have hgo : z1.goes t = true:=decide_eq_true (fun j hj=>by
     rw [p1,p2,h0]
     by_cases ej : j = who
     · rw [ej,D.p];rfl
     · rw [D.o j hj ej];rfl)
    refine ⟨1,?_,rfl,Or.inl h0⟩
    rw [hgo]
    unfold Zt.went
    rw [if_pos rfl,p2,h0]
    rfl
  · have hgo : z1.goes t = false:=decide_eq_false (fun h=>by
     have:=h who D.w
     rw [p1,p2,h0,D.p] at this
     cases this)
    refine ⟨1,?_,rfl,Or.inr h0⟩
    rw [hgo]
    unfold Zt.went
    rw [if_neg (by decide),<- h0,<- p2]
 rw [hE'] at P cm3
 obtain ⟨hE1,hez⟩:=hE01
 have hia : ∀ i,i < k -> i = a -> z.may sp i = true:=fun i hi ei=>by
  rcases he with h | h
  · have:=hea h;omega
  · rw [ei];exact hma h
 have hsi2 : ∀ i,i < k -> 0 <= z1.si i:=fun i hi=>by
  rw [hsi i hi]
  have:=DD.si i hi
  split <;> omega
 have hnd : ∀ i,i < k -> ({ z1 with ep:=E' } : Zt).due i = false:=fun i hi=>decide_eq_false (by
  show ¬ ((z1.q.y.ck i).st = 3 /\ z1.si i + 2 <= E')
  have:=hsi2 i hi
  omega)
 obtain ⟨es,ed⟩:=Zt.settled_none (t:=t) (n:=n) (k:=k) (m:=m) (z:={ z1 with ep:=E' }) k hnd
 rw [es] at P cm3
 obtain ⟨id',er,hid'⟩ : ∃ id' : Nat,(⟨.see [],wk,wk,id⟩ : Cp).round e { z1 with ep:=E' } k = ⟨.see [],⟨wk.ev + e,wk.lf,wk.fr,wk.mv,wk.rd + 1⟩,⟨wk.ev + e,wk.lf,wk.fr,wk.mv,wk.rd + 1⟩,id'⟩ /\ id' <= id + 1:=by
  unfold Cp.round Cp.past Cp.endR
  rw [ed]
  refine ⟨_,rfl,?_⟩
  simp only
  split <;> omega
 rw [er] at P
 have e1k : e = 1 -> cntB (fun i=>decide (i = a)) k = 1:=fun h=>by rw [cntB_one,if_pos (hak h)]
 have e0k : e = 0 -> cntB (fun i=>decide (i = a)) k = 0:=fun h=>by rw [cntB_one,hea h,if_neg (Nat.lt_irrefl _)]
 have hek : cntB (fun i=>decide (i = a)) k = e:=he.elim (fun h=>by rw [e0k h,h]) (fun h=>by rw [e1k h,h])
 have mq3 : ∀ i,z.may sp i = true -> z.isQ i = false:=fun i h=>decide_eq_false (fun g=>by have:=(of_decide_eq_true h).1;omega)
 have hMay : ∀ i,i < k -> ({ z1 with ep:=E' } : Zt).may sp i = (z.may sp i && decide (i ≠ a)):=fun i hi=>by
  by_cases ei : i = a
  · rw [decide_eq_false (fun h=>h ei),Bool.and_false]
    apply decide_eq_false
    show ¬ ((z1.q.y.ck i).st = 1 /\ _)
    rw [hck i hi,if_pos ei]
    rintro ⟨h,_⟩
    cases h
  · rw [decide_eq_true ei,Bool.and_true]
    apply decide_eq_decide.2
    show (z1.q.y.ck i).st = 1 /\ z1.q.y.isOpen i = false /\ 0 < (z1.q.y.ck i).us /\ (z1.q.lv i = 0 \/ 1000 * (z1.q.lv i : Int) < sp * (z1.q.y.ck i).us) ↔ _
    unfold Y.isOpen
    rw [hck i hi,if_neg ei,p5,p6]
 refine ⟨N,{ z1 with ep:=E' },e,id',hN,by omega,P,hid',⟨⟨cm3,by show 0 <= E';omega,by show E' <= _;omega,hsi2,fun i hi h=>?_,fun i hi h=>?_,fun i hi u h1 h2=>?_,fun i hi h=>?_⟩,Or.inr hE1,by show z1.pn who = 1;rw [p1];exact D.p,fun j hj hne=>by show z1.pn j = 0;rw [p1];exact D.o j hj hne,D.w⟩,?_,?_,fun h=>cntB_none k (hno h)⟩
 · show z1.si i <= E'
   have h' : (z1.q.y.ck i).st = 3:=h
   rw [hsi i hi]
   by_cases ei : i = a
   · rw [if_pos ei];omega
   · rw [if_neg ei]
     rw [hck i hi,if_neg ei] at h'
     have:=DD.qs i hi h'
     omega
 · rw [hMay i hi] at h
   have hm:=(Bool.and_eq_true_iff.1 h).1
   have ei:=of_decide_eq_true (Bool.and_eq_true_iff.1 h).2
   obtain ⟨g1,g2⟩:=DD.gn i hi hm
   show (∃ j,(z1.q.y.ck i).us = j * room (z1.q.y.ck i).cl) /\ ∀ j,j * room (z1.q.y.ck i).cl < (z1.q.y.ck i).us -> ({ z1 with ep:=E' } : Zt).gone t n k m tr i (z1.q.y.ck i) (j * room (z1.q.y.ck i).cl)
   rw [hck i hi,if_neg ei]
   refine ⟨g1,fun j hj=>?_⟩
   have:=g2 j hj
   unfold Zt.gone at this ⊢
   show z1.q.dw _ % 4 = 3 \/ _
   rw [p4,p3]
   exact this
 · show z1.q.dw _ = 0
   have h1' : (z1.q.y.ck i).us <= u:=h1
   have : (z1.q.y.ck i).us = (z.q.y.ck i).us:=by rw [hck i hi];split <;> rfl
   rw [p4]
   exact DD.nt i hi u (by omega) h2
 · have h' : (z1.q.y.ck i).st = 0:=h
   show (z1.q.y.ck i).us = 0
   rw [hck i hi] at h' ⊢
   by_cases ei : i = a
   · rw [if_pos ei] at h';cases h'
   · rw [if_neg ei] at h' ⊢;exact DD.fu i hi h'
 · have:=cntB_four (f:=z.may sp) (g:=fun _=>false) (h:=({ z1 with ep:=E' } : Zt).may sp) (l:=fun i=>decide (i = a)) k (fun i hi=>by
    rw [hMay i hi]
    by_cases ei : i = a
    · rw [hia i hi ei,decide_eq_true ei,decide_eq_false (fun g=>g ei)];rfl
    · rw [decide_eq_true ei,decide_eq_false ei,Bool.and_true])
   rw [hek,cntB_none k (f:=fun _=>false) (fun _ _=>rfl)] at this
   exact this
 · have:=cntB_four (f:=({ z1 with ep:=E' } : Zt).isQ) (g:=fun _=>false) (h:=z.isQ) (l:=fun i=>decide (i = a)) k (fun i hi=>by
    have e1 : ({ z1 with ep:=E' } : Zt).isQ i = decide ((if i = a then (⟨3,(z.q.y.ck i).cl,(z.q.y.ck i).us,(z.q.y.ck i).sp + 2⟩ : Ck) else z.q.y.ck i).st = 3):=by unfold Zt.isQ;rw [<- hck i hi]
    rw [e1]
    by_cases ei : i = a
    · rw [if_pos ei,mq3 i (hia i hi ei),decide_eq_true ei];rfl
    · rw [if_neg ei,decide_eq_false ei];rfl)
   rw [hek,cntB_none k (f:=fun _=>false) (fun _ _=>rfl)] at this
   exact this
theorem pin_runs {who : Nat} (hk0 : 0 < k) (hk : k <= 8) (ht : t <= 8) (hm : m <= 256) : ∀ (c σ : Nat) (z : Zt) (wk : Wk) (id : Nat),DP t n k m sp tr σ who z -> wk.ev + cntB (z.may sp) k <= 900000 -> wk.lf <= 900000 -> wk.fr <= 900000 -> wk.mv <= 900000 -> wk.rd + c <= 900000 -> id + c <= 900000 -> σ + c * 4000 + 4000 <= 990000 ->
 ∃ (N : Nat) (z' : Zt) (wk' : Wk) (id' : Nat),N <= c * 3000 /\ CRuns t n k m sp tr (wk.rd + c) N σ z ⟨.see [],wk,wk,id⟩ z' ⟨.see [],wk',wk',id'⟩ /\ DP t n k m sp tr (σ + N) who z' /\ wk'.fr = wk.fr /\ wk'.lf = wk.lf /\ wk'.mv = wk.mv /\ wk'.ev + cntB z.isQ k = wk.ev + cntB z'.isQ k /\ wk'.ev + cntB (z'.may sp) k = wk.ev + cntB (z.may sp) k /\ wk'.rd = wk.rd + c /\ id' <= id + c /\ wk.ev <= wk'.ev /\ (1 <= c -> 1 <= cntB (z.may sp) k -> wk.ev + 1 <= wk'.ev):=by
 intro c
 induction c with
 | zero =>
  intro σ z wk id D _ _ _ _ _ _ _
  exact ⟨0,z,wk,id,Nat.zero_le _,.nil rfl,D,rfl,rfl,rfl,rfl,rfl,rfl,Nat.le_refl _,Nat.le_refl _,fun h=>by omega⟩
 | succ c ih =>
  intro σ z wk id D h1 h2 h3 h4 h5 h6 hσ
  have d1 : (c + 1) * 4000 = c * 4000 + 4000:=Nat.succ_mul c 4000
  have d2 : (c + 1) * 3000 = c * 3000 + 3000:=Nat.succ_mul c 3000
  rw [d1] at hσ
  rw [d2]
  obtain ⟨A,hA⟩ : ∃ A,c * 4000 = A:=⟨_,rfl⟩
  rw [hA] at hσ ih
  clear d1 d2 hA
  have hσ0 : σ + 4000 <= 990000:=by omega
  obtain ⟨N,z1,e,id1,hN,he,P,i1,D1,m1,q1,n1⟩:=D.round (wk:=wk) (id:=id) ⟨by omega,by omega,by omega,by omega,by omega⟩ (by omega) hk0 hk ht hm hσ0
  obtain ⟨N2,z',wk',id',hN2,C,D',f',l',v',q',M',r',j1,v1,g'⟩:=ih (σ + N) z1 ⟨wk.ev + e,wk.lf,wk.fr,wk.mv,wk.rd + 1⟩ id1 D1 (by show wk.ev + e + _ <= _;omega) h2 h3 h4 (by show wk.rd + 1 + c <= _;omega) (by omega) (by omega)
  simp only at C f' l' v' q' M' r' v1 g'
  refine ⟨N + N2,z',wk',id',by omega,P.runs (by omega) ?_,?_,f',l',v',by omega,by omega,by omega,by omega,by omega,fun _ hp=>?_⟩
  · have : wk.rd + 1 + c = wk.rd + (c + 1):=by omega
    rw [<- this];exact C
  · rw [<- Nat.add_assoc];exact D'
  · have : e ≠ 0:=fun h=>by have:=n1 h;omega
    omega
theorem unpin_runs (hk0 : 0 < k) (hk : k <= 8) (ht : t <= 8) (hm : m <= 256) {c σ : Nat} {z : Zt} {wk : Wk} {id : Nat} (D : DQ t n k m sp tr σ z) (hpin : ∀ j,j < t -> z.pn j = 0) (hc : 12 <= c) (h1 : wk.le 800000) (h5 : wk.rd + c <= 800000) (h6 : id + c <= 800000) (hσ : σ + c * 4000 + 4000 <= 990000) :
 ∃ (N : Nat) (z' : Zt) (wk' : Wk) (id' : Nat),N <= c * 3000 /\ CRuns t n k m sp tr (wk.rd + c) N σ z ⟨.see [],wk,wk,id⟩ z' ⟨.see [],wk',wk',id'⟩ /\ wk.fr + cntB z.isQ k <= wk'.fr /\ 1 <= id':=by
 obtain ⟨w1,w2,w3,w4,w5⟩:=h1
 obtain ⟨c,rfl⟩ : ∃ d,c = d + 1:=⟨c - 1,by omega⟩
 have d1 : (c + 1) * 4000 = c * 4000 + 4000:=Nat.succ_mul c 4000
 have d2 : (c + 1) * 3000 = c * 3000 + 3000:=Nat.succ_mul c 3000
 rw [d1] at hσ
 rw [d2]
 have k1:=cntB_le z.isQ k
 have k2:=cntB_le z.old k
 have k3:=cntB_le (z.may sp) k
 obtain ⟨A,hA⟩ : ∃ A,c * 4000 = A:=⟨_,rfl⟩
 rw [hA] at hσ
 obtain ⟨N,z1,e,id1,hN,he,P,i1,D1,m1,q1⟩:=D.round hpin (wk:=wk) (id:=id) ⟨by omega,by omega,by omega,by omega,by omega⟩ (by omega) hk0 hk ht hm (by omega)
 have k4:=cntB_le z1.isQ k
 obtain ⟨N2,z',wk',id',hN2,C,D',L',f',M',Q',r',j1,j2⟩:=dead_runs (t:=t) (n:=n) (k:=k) (m:=m) (sp:=sp) (tr:=tr) hk0 hk ht hm c (σ + N) z1 ⟨wk.ev + e,wk.lf,wk.fr + cntB z.old k,wk.mv,wk.rd + 1⟩ id1 D1 (by show wk.ev + e + _ <= _;omega) (by show wk.lf <= _;omega) (by show wk.fr + _ + _ + _ <= _;omega) (by show wk.mv <= _;omega) (by show wk.rd + 1 + c <= _;omega) (by omega) (by rw [hA];omega)
 simp only at C f' r'
 have hM0 : cntB (z'.may sp) k = 0:=by omega
 have hQ0:=Q' (by omega)
 refine ⟨N + N2,z',wk',id',by omega,P.runs (by omega) ?_,by omega,j2 (by omega)⟩
 have : wk.rd + 1 + c = wk.rd + (c + 1):=by omega
 rw [<- this];exact C
end
end
end Go.Proofs.YtmnnhjhhhfabiaaGreat
