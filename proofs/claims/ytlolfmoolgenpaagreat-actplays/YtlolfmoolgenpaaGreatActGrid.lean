import Derived.Test.YtlolfmoolgenpaaGreatDropRow
import Derived.Test.YtlolfmoolgenpaaGreatActHut
namespace Go.Proofs.YtlolfmoolgenpaaGreat
open Go.RowKit
theorem only_set {X : Nat} (w : World) (i : Nat) (v : Value) : Only (fun b=>b = X) w (w.setCell ⟨X,i,none⟩ v):=(Only.refl (fun b=>b = X) w).setCell (a:=⟨X,i,none⟩) (fun _=>rfl) v
structure Rc where
 x : Nat
 g : Nat
 Z : Nat
 own : Bool
 live : Bool
 b : Nat
def Rc.h (r : Rc) : Value:=.int .u64 (packH r.x r.g)
def Rc.w (r : Rc) : Value:=if r.live then .slice (some ⟨r.b,0,none⟩) r.Z r.Z else .slice none 0 0
def Rc.o (r : Rc) : Value:=.bool r.own
theorem Rw.fresh (w : World) (T : TypeId) : Rw (w.alloc (.cells #[] T)) T w.heap.size 0 []:=⟨⟨#[],Go.Deep.blk_alloc_new _ _,by simp,fun i x h=>by simp at h⟩,by simp⟩
theorem Rw.ne_row {w : World} {T T' : TypeId} {b b' cap n : Nat} {l : List Value} {f : Nat -> Value} (h : Rw w T b cap l) (h' : w.rowIs b' T' n f) (e : T ≠ T') : b' ≠ b:=fun e'=>by
 subst e'
 obtain ⟨c,k,_⟩:=h.ex
 obtain ⟨c',k',_⟩:=h'
 rw [k] at k'
 cases k'
 exact e rfl
structure Duo where
 b : Nat -> Nat
 c : Nat -> Nat
 l : Nat -> List Value
 hv : Int
 ow : Bool
 Z : Nat
 base : Nat
def duoT : Nat -> TypeId
 | 0=>34
 | 1=>43
 | _=>4
namespace Duo
def has (F : Duo) (k : Nat) : Prop:=∃ a,a < 3 /\ k = F.b a
def ph (F : Duo) : Nat -> World -> Value -> Prop
 | 0,_,x=>x = .int .u64 F.hv
 | 2,_,x=>x = .bool F.ow
 | _,W,x=>∃ g,x = .slice (some ⟨g,0,none⟩) F.Z F.Z /\ F.base <= g /\ W.rowIs g 3 F.Z (fun _=>.int .i64 0)
theorem ph_one {F : Duo} {a : Nat} {W : World} {x : Value} (h : F.ph a W x) : x.oneCell' = true:=by
 match a,h with
 | 0,h=>have h : x = .int .u64 F.hv:=h;subst h;rfl
 | 1,⟨g,h,_⟩=>subst h;rfl
 | 2,h=>have h : x = .bool F.ow:=h;subst h;rfl
 | a + 3,⟨g,h,_⟩=>subst h;rfl
theorem ph_stays {F : Duo} (hb : ∀ a,a < 3 -> F.b a < F.base) {X Y : World} (o : Only F.has X Y) {a : Nat} {x : Value} (h : F.ph a X x) : F.ph a Y x:=by
 have key : ∀ g,F.base <= g -> X.rowIs g 3 F.Z (fun _=>.int .i64 0) -> Y.rowIs g 3 F.Z (fun _=>.int .i64 0):=fun g h2 h3=>h3.of_block (o.block _ h3.lt (by
  rintro ⟨a',ha',e⟩
  have:=hb a' ha'
  omega))
 match a,h with
 | 0,h=>exact h
 | 1,⟨g,h1,h2,h3⟩=>exact ⟨g,h1,h2,key g h2 h3⟩
 | 2,h=>exact h
 | a + 3,⟨g,h1,h2,h3⟩=>exact ⟨g,h1,h2,key g h2 h3⟩
end Duo
structure Keep2 (F : Duo) (X Y : World) : Prop where
 only : Only F.has X Y
 v1 : ∀ a,a < 3 -> Rw X (duoT a) (F.b a) (F.c a) (F.l a) -> Rw Y (duoT a) (F.b a) (F.c a) (F.l a)
 v2 : ∀ a,a < 3 -> (∃ x,F.ph a X x /\ Rw X (duoT a) (F.b a) (F.c a) (F.l a ++ [x])) -> ∃ x,F.ph a Y x /\ Rw Y (duoT a) (F.b a) (F.c a) (F.l a ++ [x])
section
variable {F : Duo} {X Y : World}
theorem Keep2.refl (X : World) : Keep2 F X X:=⟨Only.refl _ _,fun _ _ h=>h,fun _ _ h=>h⟩
theorem Keep2.trans (X Y Z : World) (h : Keep2 F X Y) (k : Keep2 F Y Z) : Keep2 F X Z:=⟨h.only.trans k.only,fun a ha r=>k.v1 a ha (h.v1 a ha r),fun a ha r=>k.v2 a ha (h.v2 a ha r)⟩
theorem Keep2.grown (hb : ∀ a,a < 3 -> F.b a < F.base) (g : Grown X Y) : Keep2 F X Y:=⟨Only.ofGrown g,fun _ _ h=>h.grown g,fun _ _ ⟨x,h1,h2⟩=>⟨x,Duo.ph_stays hb (Only.ofGrown g) h1,h2.grown g⟩⟩
theorem Keep2.app (hb : ∀ a,a < 3 -> F.b a < F.base) {a : Nat} (ha : a < 3) (hne : ∀ a',a' < 3 -> a' ≠ a -> F.b a' ≠ F.b a) (o : Only (fun k=>k = F.b a) X Y) (h1 : Rw Y (duoT a) (F.b a) (F.c a) (F.l a)) {x : Value} (px : F.ph a Y x) (h2 : Rw Y (duoT a) (F.b a) (F.c a) (F.l a ++ [x])) : Keep2 F X Y:=by
 have o' : Only F.has X Y:=⟨o.os,o.tape,o.output,o.size,fun k hk hn=>o.block k hk (fun e=>hn ⟨a,ha,e⟩)⟩
 refine ⟨o',fun a' ha' h=>?_,fun a' ha' h=>?_⟩
 · by_cases e : a' = a
   · subst e;exact h1
   · exact h.only o (hne a' ha' e)
 · by_cases e : a' = a
   · subst e;exact ⟨x,px,h2⟩
   · obtain ⟨y,p,r⟩:=h
     exact ⟨y,Duo.ph_stays hb o' p,r.only o (hne a' ha' e)⟩
def Duo.grew (F : Duo) (a : Nat) (W : World) (v : Value) : Prop:=∃ b' c' x,v = .slice (some ⟨b',0,none⟩) ((F.l a).length + 1) c' /\ F.ph a W x /\ Rw W (duoT a) b' c' (F.l a ++ [x]) /\ ((b' = F.b a /\ c' = F.c a) \/ F.base <= b')
theorem Duo.grew_stays {a : Nat} (ha : a < 3) (hb : ∀ a,a < 3 -> F.b a < F.base) (X Y : World) (v : Value) (k : Keep2 F X Y) (h : F.grew a X v) : F.grew a Y v:=by
 obtain ⟨b',c',x,rfl,p,r,e⟩:=h
 rcases e with ⟨rfl,rfl⟩ | e
 · obtain ⟨y,p',r'⟩:=k.v2 a ha ⟨x,p,r⟩
   exact ⟨_,_,y,rfl,p',r',Or.inl ⟨rfl,rfl⟩⟩
 · refine ⟨b',c',x,rfl,Duo.ph_stays hb k.only p,r.only k.only ?_,Or.inr e⟩
   rintro ⟨a',ha',e'⟩
   have:=hb a' ha'
   omega
def Duo.boxd (F : Duo) (a : Nat) (W : World) (v : Value) : Prop:=∃ g x,v = .slice (some ⟨g,0,none⟩) 1 1 /\ F.base <= g /\ F.ph a W x /\ W.cell? ⟨g,0,none⟩ = some x
theorem Duo.boxd_stays {a : Nat} (hb : ∀ a,a < 3 -> F.b a < F.base) (X Y : World) (v : Value) (k : Keep2 F X Y) (h : F.boxd a X v) : F.boxd a Y v:=by
 obtain ⟨g,x,rfl,h1,p,h2⟩:=h
 refine ⟨g,x,rfl,h1,Duo.ph_stays hb k.only p,k.only.keep (b:=g) ?_ h2⟩
 rintro ⟨a',ha',e⟩
 have:=hb a' ha'
 omega
theorem Duo.ph_keep {a : Nat} (hb : ∀ a,a < 3 -> F.b a < F.base) (X Y : World) (v : Value) (k : Keep2 F X Y) (h : F.ph a X v) : F.ph a Y v:=Duo.ph_stays hb k.only h
theorem Tryz.infoR43 : (Tryz.prog.info? 43).map (fun i=>(i.zero,i.size,i.bytes)) = some (some (.slice none 0 0),1,24):=by kernel_rfl
theorem Duo.app {a : Nat} (ha : a < 3) (hb : ∀ a,a < 3 -> F.b a < F.base) (hne : ∀ a',a' < 3 -> a' ≠ a -> F.b a' ≠ F.b a) {S : TypeId} {z : Value} {bytes : Nat} (hu : Tryz.prog.underlying S = some (.slice (duoT a))) (hi0 : (Tryz.prog.info? (duoT a)).map (fun i=>(i.zero,i.size,i.bytes)) = some (some z,1,bytes)) (hz : z.cells.size = 1) (hby : bytes <= 24)
 {w0 w : World} (h0 : Rw w0 (duoT a) (F.b a) (F.c a) (F.l a)) (k : Keep2 F w0 w) {v : Value} (hv : F.boxd a w v) (hl : (F.l a).length <= 1000) (hbw : F.base <= w.heap.size) (ty : TypeId) {b c n : Nat} (eb : F.b a = b) (ec : F.c a = c) (en : (F.l a).length = n) :
 ∃ v' w',(Builtin.append_ #[S,S] ty #[.slice (some ⟨b,0,none⟩) n c,v]).run Tryz.prog w = .ok v' w' /\ Keep2 F w w' /\ F.grew a w' v':=by
 subst eb ec en
 obtain ⟨g,x,rfl,h1,p,h2⟩:=hv
 obtain ⟨b',c',w',hrun,r,o,e⟩:=(k.v1 a ha h0).app hu hi0 hz hby g x (Duo.ph_one p) h2 hl ty
 have o' : Only F.has w w':=⟨o.os,o.tape,o.output,o.size,fun k hk hn=>o.block k hk (fun e=>hn ⟨a,ha,e⟩)⟩
 have p':=Duo.ph_stays hb o' p
 refine ⟨_,w',hrun,?_,b',c',x,rfl,p',r,?_⟩
 · rcases e with ⟨rfl,rfl,h1⟩ | ⟨_,g⟩
   · exact Keep2.app hb ha hne o h1 p' r
   · exact Keep2.grown hb g
 · rcases e with ⟨h1,h2,_⟩ | ⟨h,_⟩
   · exact Or.inl ⟨h1,h2⟩
   · exact Or.inr (by omega)
end
theorem rely_append2 {P : Program} {R : World -> World -> Prop} {o : Oper} {a : Act} {w w' : World} {φ : World -> Value -> Prop} {t : TypeId} {v vx v' : Value} (s x : Operand)
 (ho : o.op = .call { callee:=.builtin .append,args:=#[s,x],argTypes:=#[t,t] }) (hs : a.eval s = v) (hx : a.eval x = vx)
 (hr : (Builtin.append_ #[t,t] o.type #[v,vx]).run P w = .ok v' w') (hR : R w w') (hφ : φ w' v') : relyUpon P R w φ ((execOp a.eval o).run P w):=by
 unfold execOp
 simp only [ho,resolve,invoke,builtin,Sem.run_bind,Sem.run_pure,Result.andThen_ok,List.map_toArray,List.map_cons,List.map_nil,hs,hx,hr]
 exact ⟨hR,hφ⟩
structure Lone (w0 : World) (L : Loc) (E b : Nat) : Prop where
 p : w0.heap.size <= b
 l : ¬ L.has b
 e : E ≠ b
structure Grid (w0 w : World) (L : Loc) (E : Nat) (rs : List Rc) (D : Nat -> Nat -> Int) (b1 c1 b2 c2 b3 c3 : Nat) : Prop where
 r1 : Rw w 34 b1 c1 (rs.map Rc.h)
 r2 : Rw w 43 b2 c2 (rs.map Rc.w)
 r3 : Rw w 4 b3 c3 (rs.map Rc.o)
 wr : ∀ (K : Nat) (r : Rc),rs[K]? = some r -> r.live = true -> w.rowIs r.b 3 r.Z (fun j=>.int .i64 (D K j))
 ne : ∀ (K K' : Nat) (r r' : Rc),K ≠ K' -> rs[K]? = some r -> rs[K']? = some r' -> r.live = true -> r'.live = true -> r.b ≠ r'.b
 f1 : Lone w0 L E b1
 f2 : Lone w0 L E b2
 f3 : Lone w0 L E b3
 fr : ∀ (K : Nat) (r : Rc),rs[K]? = some r -> r.live = true -> Lone w0 L E r.b
def Gh (rs : List Rc) (b1 b2 b3 b : Nat) : Prop:=b = b1 \/ b = b2 \/ b = b3 \/ ∃ (K : Nat) (r : Rc),rs[K]? = some r /\ r.live = true /\ b = r.b
section
variable {w0 w w' : World} {L : Loc} {E : Nat} {rs : List Rc} {D : Nat -> Nat -> Int} {b1 c1 b2 c2 b3 c3 : Nat}
theorem Grid.lt (h : Grid w0 w L E rs D b1 c1 b2 c2 b3 c3) {b : Nat} (hb : Gh rs b1 b2 b3 b) : b < w.heap.size:=by
 rcases hb with rfl | rfl | rfl | ⟨K,r,e,l,rfl⟩
 · exact h.r1.lt
 · exact h.r2.lt
 · exact h.r3.lt
 · exact (h.wr K r e l).lt
theorem Grid.lone (h : Grid w0 w L E rs D b1 c1 b2 c2 b3 c3) {b : Nat} (hb : Gh rs b1 b2 b3 b) : Lone w0 L E b:=by
 rcases hb with rfl | rfl | rfl | ⟨K,r,e,l,rfl⟩
 · exact h.f1
 · exact h.f2
 · exact h.f3
 · exact h.fr K r e l
theorem Grid.only {S : Nat -> Prop} (h : Grid w0 w L E rs D b1 c1 b2 c2 b3 c3) (o : Only S w w') (hs : ∀ b,Gh rs b1 b2 b3 b -> ¬ S b) : Grid w0 w' L E rs D b1 c1 b2 c2 b3 c3 :=
 ⟨h.r1.only o (hs _ (Or.inl rfl)),h.r2.only o (hs _ (Or.inr (Or.inl rfl))),h.r3.only o (hs _ (Or.inr (Or.inr (Or.inl rfl)))),fun K r e l=>(h.wr K r e l).of_block (o.block _ (h.wr K r e l).lt (hs _ (Or.inr (Or.inr (Or.inr ⟨K,r,e,l,rfl⟩))))),h.ne,h.f1,h.f2,h.f3,h.fr⟩
theorem Grid.grown (h : Grid w0 w L E rs D b1 c1 b2 c2 b3 c3) (g : Below w.heap.size w w') : Grid w0 w' L E rs D b1 c1 b2 c2 b3 c3:=h.only (S:=fun _=>False) (Only.ofGrown g) (fun _ _ h=>h)
theorem Grid.mem (h : Grid w0 w L E rs D b1 c1 b2 c2 b3 c3) (o : Only L.has w w') : Grid w0 w' L E rs D b1 c1 b2 c2 b3 c3:=h.only o (fun _ hb=>(h.lone hb).l)
theorem Grid.set (h : Grid w0 w L E rs D b1 c1 b2 c2 b3 c3) {K : Nat} {r : Rc} (hr : rs[K]? = some r) (hl : r.live = true) (j : Nat) (v : Int) : Grid w0 (w.setCell ⟨r.b,j,none⟩ (.int .i64 v)) L E rs (fun K' j'=>if K' = K /\ j' = j then v else D K' j') b1 c1 b2 c2 b3 c3:=by
 have o:=only_set (X:=r.b) w j (.int .i64 v)
 have hw:=h.wr K r hr hl
 refine ⟨h.r1.only o (fun e=>(h.r1.ne_row hw (by decide)) e.symm),h.r2.only o (fun e=>(h.r2.ne_row hw (by decide)) e.symm),h.r3.only o (fun e=>(h.r3.ne_row hw (by decide)) e.symm),fun K' r' e l'=>?_,h.ne,h.f1,h.f2,h.f3,h.fr⟩
 by_cases ek : K' = K
 · subst ek
   rw [hr] at e
   cases e
   refine (hw.set j _).congr fun j' _=>?_
   by_cases e : j' = j <;> simp [e]
 · refine ((h.wr K' r' e l').of_block (o.block _ (h.wr K' r' e l').lt (fun e'=>h.ne K' K r' r ek e hr l' hl e'))).congr fun j' _=>?_
   simp [ek]
theorem getSet {K K' : Nat} {r r1 r' : Rc} (hr : rs[K]? = some r) (e : (rs.set K r1)[K']? = some r') : (K' ≠ K /\ rs[K']? = some r') \/ (K' = K /\ r' = r1):=by
 have hlt : K < rs.length:=(List.getElem?_eq_some_iff.1 hr).1
 by_cases ek : K = K'
 · subst ek
   rw [List.getElem?_set_self hlt] at e
   exact Or.inr ⟨rfl,(Option.some.inj e).symm⟩
 · rw [List.getElem?_set_ne ek] at e
   exact Or.inl ⟨fun e'=>ek e'.symm,e⟩
theorem Grid.gone (h : Grid w0 w L E rs D b1 c1 b2 c2 b3 c3) {K : Nat} {r : Rc} (hr : rs[K]? = some r) : Grid w0 (w.setCell ⟨b2,K,none⟩ (.slice none 0 0)) L E (rs.set K { r with live:=false }) D b1 c1 b2 c2 b3 c3:=by
 have o:=only_set (X:=b2) w K (.slice none 0 0)
 have hlt : K < rs.length:=(List.getElem?_eq_some_iff.1 hr).1
 have s1 : (rs.set K { r with live:=false }).map Rc.h = rs.map Rc.h:=by
  refine List.ext_getElem? fun i=>?_
  rw [List.getElem?_map,List.getElem?_map,List.getElem?_set]
  by_cases e : K = i
  · subst e;rw [if_pos rfl,if_pos hlt,hr];rfl
  · rw [if_neg e]
 have s3 : (rs.set K { r with live:=false }).map Rc.o = rs.map Rc.o:=by
  refine List.ext_getElem? fun i=>?_
  rw [List.getElem?_map,List.getElem?_map,List.getElem?_set]
  by_cases e : K = i
  · subst e;rw [if_pos rfl,if_pos hlt,hr];rfl
  · rw [if_neg e]
 have s2 : (rs.set K { r with live:=false }).map Rc.w = (rs.map Rc.w).set K (.slice none 0 0):=by rw [List.map_set];rfl
 refine ⟨?_,?_,?_,fun K' r' e l'=>?_,fun K1 K2 r1 r2 hne e1 e2 l1 l2=>?_,h.f1,h.f2,h.f3,fun K' r' e l'=>?_⟩
 · rw [s1];exact h.r1.only o (h.r1.ne h.r2 (by decide))
 · rw [s2];exact h.r2.set (by simpa using hlt) _
 · rw [s3];exact h.r3.only o (h.r3.ne h.r2 (by decide))
 · rcases getSet hr e with ⟨_,e⟩ | ⟨_,rfl⟩
   · exact (h.wr K' r' e l').of_block (o.block _ (h.wr K' r' e l').lt (fun e'=>(h.r2.ne_row (h.wr K' r' e l') (by decide)) e'))
   · cases l'
 · rcases getSet hr e1 with ⟨_,e1⟩ | ⟨_,rfl⟩
   · rcases getSet hr e2 with ⟨_,e2⟩ | ⟨_,rfl⟩
     · exact h.ne K1 K2 r1 r2 hne e1 e2 l1 l2
     · cases l2
   · cases l1
 · rcases getSet hr e with ⟨_,e⟩ | ⟨_,rfl⟩
   · exact h.fr K' r' e l'
   · cases l'
theorem getMore {K : Nat} {r r1 : Rc} (e : (rs ++ [r1])[K]? = some r) : rs[K]? = some r \/ (K = rs.length /\ r = r1):=by
 by_cases hk : K < rs.length
 · rw [List.getElem?_append_left hk] at e;exact Or.inl e
 · rw [List.getElem?_append_right (by omega)] at e
   have hk2 : K - rs.length < 1:=by have:=(List.getElem?_eq_some_iff.1 e).1;simpa using this
   have : K = rs.length:=by omega
   subst this
   simp at e
   exact Or.inr ⟨rfl,e.symm⟩
theorem Grid.grew (h : Grid w0 w L E rs D b1 c1 b2 c2 b3 c3) (hE : E < w.heap.size) (hw : w0.heap.size <= w.heap.size) (hL : ∀ b,L.has b -> b < w.heap.size) {F : Duo} (e1 : F.b 0 = b1) (e2 : F.b 1 = b2) (e3 : F.b 2 = b3) (l1 : F.l 0 = rs.map Rc.h) (l2 : F.l 1 = rs.map Rc.w) (l3 : F.l 2 = rs.map Rc.o) {x g : Nat} (hv : F.hv = packH x g) (hB : F.base = w.heap.size) (hD : ∀ j,D rs.length j = 0) (k : Keep2 F w w') {v1 v2 v3 : Value} (g1 : F.grew 0 w' v1) (g2 : F.grew 1 w' v2) (g3 : F.grew 2 w' v3) :
 ∃ b b1' c1' b2' c2' b3' c3',v1 = .slice (some ⟨b1',0,none⟩) (rs ++ [(⟨x,g,F.Z,F.ow,true,b⟩ : Rc)]).length c1' /\ v2 = .slice (some ⟨b2',0,none⟩) (rs ++ [(⟨x,g,F.Z,F.ow,true,b⟩ : Rc)]).length c2' /\ v3 = .slice (some ⟨b3',0,none⟩) (rs ++ [(⟨x,g,F.Z,F.ow,true,b⟩ : Rc)]).length c3' /\ Grid w0 w' L E (rs ++ [(⟨x,g,F.Z,F.ow,true,b⟩ : Rc)]) D b1' c1' b2' c2' b3' c3':=by
 obtain ⟨b1',c1',x1,rfl,p1,r1,a1⟩:=g1
 obtain ⟨b2',c2',x2,rfl,p2,r2,a2⟩:=g2
 obtain ⟨b3',c3',x3,rfl,p3,r3,a3⟩:=g3
 have p1 : x1 = .int .u64 F.hv:=p1
 have p3 : x3 = .bool F.ow:=p3
 obtain ⟨gb,rfl,hg,row⟩ : ∃ g,x2 = .slice (some ⟨g,0,none⟩) F.Z F.Z /\ F.base <= g /\ w'.rowIs g 3 F.Z (fun _=>.int .i64 0):=p2
 have lone : ∀ b,w.heap.size <= b -> Lone w0 L E b:=fun b hb=>⟨by omega,fun h=>by have:=hL b h;omega,by omega⟩
 refine ⟨gb,b1',c1',b2',c2',b3',c3',by rw [l1];simp,by rw [l2];simp,by rw [l3];simp,?_,?_,?_,fun K r e l=>?_,fun K K' r r' hne e e' l l'=>?_,?_,?_,?_,fun K r e l=>?_⟩
 · rw [List.map_append,<- l1]
   have : [(⟨x,g,F.Z,F.ow,true,gb⟩ : Rc)].map Rc.h = [x1]:=by rw [p1,hv];rfl
   rw [this];exact r1
 · rw [List.map_append,<- l2]
   exact r2
 · rw [List.map_append,<- l3]
   have : [(⟨x,g,F.Z,F.ow,true,gb⟩ : Rc)].map Rc.o = [x3]:=by rw [p3];rfl
   rw [this];exact r3
 · rcases getMore e with e | ⟨ek,rfl⟩
   · refine (h.wr K r e l).of_block (k.only.block _ (h.wr K r e l).lt ?_)
     rintro ⟨a,ha,ea⟩
     have : a = 0 \/ a = 1 \/ a = 2:=by omega
     rcases this with rfl | rfl | rfl
     · rw [e1] at ea;exact h.r1.ne_row (h.wr K r e l) (by decide) ea
     · rw [e2] at ea;exact h.r2.ne_row (h.wr K r e l) (by decide) ea
     · rw [e3] at ea;exact h.r3.ne_row (h.wr K r e l) (by decide) ea
   · subst ek
     exact row.congr fun j _=>by rw [hD]
 · rcases getMore e with e | ⟨k1,rfl⟩ <;> rcases getMore e' with e' | ⟨k2,rfl⟩
   · exact h.ne K K' r r' hne e e' l l'
   · have:=(h.wr K r e l).lt
     show r.b ≠ gb
     omega
   · have:=(h.wr K' r' e' l').lt
     show gb ≠ r'.b
     omega
   · omega
 · rcases a1 with ⟨rfl,_⟩ | a1
   · rw [e1];exact h.f1
   · exact lone _ (by omega)
 · rcases a2 with ⟨rfl,_⟩ | a2
   · rw [e2];exact h.f2
   · exact lone _ (by omega)
 · rcases a3 with ⟨rfl,_⟩ | a3
   · rw [e3];exact h.f3
   · exact lone _ (by omega)
 · rcases getMore e with e | ⟨_,rfl⟩
   · exact h.fr K r e l
   · exact lone _ (by show w.heap.size <= gb;omega)
end
end Go.Proofs.YtlolfmoolgenpaaGreat
