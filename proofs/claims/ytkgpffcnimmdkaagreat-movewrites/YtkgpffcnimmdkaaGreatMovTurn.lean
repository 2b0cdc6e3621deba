import Derived.Test.YtkgpffcnimmdkaaGreatAllocCamp
import Derived.Test.YtkgpffcnimmdkaaGreatDropGo
namespace Go.Proofs.YtkgpffcnimmdkaaGreat
open Go.RowKit
structure Ox where
 x : Nat
 g : Nat
 a : Nat
 i : Nat
 u : Nat
 Z : Nat
 κ : Nat
 own : Bool
structure Ox.ok (t n k m : Nat) (o : Ox) : Prop where
 z1 : 1 <= o.Z
 z2 : o.Z <= 16
 kz : classOf o.Z = o.κ
 k4 : o.κ < 4
 x1 : o.x < n
 g1 : 1 <= o.g
 g2 : o.g <= 65535
 ik : o.i < k
 uk : o.u + room o.κ <= m
 ae : o.a = base t n k m o.i + o.u
structure Ox.lies (q : Q) (o : Ox) : Prop where
 nf : o.x ∉ q.F
 sw : q.sw o.x = packS 1 o.a o.g 0
 hw : q.dw o.a = packOw 2 o.Z o.x o.g o.own
 nt : ∀ j,1 <= j -> j <= o.Z -> q.dw (o.a + j) = 0
 us : o.u + room o.κ <= (q.y.ck o.i).us
def Ox.apart (o o' : Ox) : Prop:=o.x ≠ o'.x /\ (o.i ≠ o'.i \/ o.u + room o.κ <= o'.u \/ o'.u + room o'.κ <= o.u)
def liveIn (i : Nat) : List Ox -> Nat
 | []=>0
 | o :: l=>(if o.i = i then room o.κ else 0) + liveIn i l
structure Tame (t n k m : Nat) (q : Q) (nx : Nat) (gen : Nat -> Nat) (ls : List Ox) : Prop where
 al : Alone k q.y nx
 us : ∀ i,i < k -> (q.y.ck i).us <= m
 dw : ∀ i,i < k -> ∀ u,(q.y.ck i).us <= u -> u < m -> q.dw (base t n k m i + u) = 0
 sw : ∀ x,x ∈ q.F -> q.sw x = packS 0 0 (gen x) 0
 gb : ∀ x,x < n -> 1 <= gen x /\ gen x <= 65535
 gn : ∀ o ∈ ls,gen o.x = o.g
 ok : ∀ o ∈ ls,o.ok t n k m
 li : ∀ o ∈ ls,o.lies q
 pw : ls.Pairwise Ox.apart
 lv : ∀ i,i < k -> q.lv i = liveIn i ls
 wb : ∀ a,0 <= q.dw a /\ q.dw a <= 18446744073709551615
theorem pack_free (G : Nat) (hG : G <= 65535) : packS 0 0 (G : Int) 0 = G * 8388608:=by
 unfold packS
 rw [cut_id 0 3 (by omega) (by decide),cut_id 0 20 (by omega) (by decide),cut_id G 16 (by omega) (by simp;omega),cut_id 0 22 (by omega) (by decide)]
 omega
theorem gen_free {G : Nat} (hG : G <= 65535) : genOf (packS 0 0 (G : Int) 0) = G:=by
 rw [pack_free G hG]
 unfold genOf
 omega
theorem tame0 (t n k m : Nat) : Tame t n k m (Q.new n) 0 (fun _=>1) [] :=
 ⟨alone0 k,fun _ _=>Nat.zero_le _,fun _ _ _ _ _=>rfl,fun _ _=>by show (8388608 : Int) = _;rw [pack_free 1 (by decide)];rfl,fun _ _=>⟨Nat.le_refl _,by decide⟩,fun _ h=>(by cases h),fun _ h=>(by cases h),fun _ h=>(by cases h),.nil,fun _ _=>rfl,fun _=>⟨Int.le_refl 0,show (0 : Int) <= 18446744073709551615 by decide⟩⟩
section
variable {t n k m κ nx : Nat} {q : Q} {gen : Nat -> Nat} {ls : List Ox} {own : Bool}
def Q.ox (q : Q) (gen : Nat -> Nat) (x a i Z κ : Nat) (own : Bool) : Ox:=⟨x,gen x,a,i,(q.y.ck i).us,Z,κ,own⟩
theorem Tame.gen_is (C : Tame t n k m q nx gen ls) {x : Nat} (hx : x ∈ q.F) (hn : x < n) : genOf (q.sw x) = gen x:=by
 rw [C.sw x hx];exact gen_free (C.gb x hn).2
theorem Ox.word_apart {o : Ox} (h : o.ok t n k m) {j i u : Nat} (hj : j <= o.Z) (hu : u < m) (hd : o.i ≠ i \/ o.u + room o.κ <= u) : o.a + j ≠ base t n k m i + u:=by
 have hr:=size_room h.z1 h.kz
 have huk:=h.uk
 rw [h.ae,Nat.add_assoc]
 rcases Nat.lt_or_ge 0 (if o.i = i then 1 else 0) with e | e
 · have e' : o.i = i:=by
    by_cases e' : o.i = i
    · exact e'
    · rw [if_neg e'] at e;omega
   rw [e']
   have : o.u + room o.κ <= u:=hd.resolve_left (fun hh=>hh e')
   omega
 · have e' : ¬ o.i = i:=fun e'=>by rw [if_pos e'] at e;omega
   exact base_apart (i:=o.i) (j:=i) (by omega) hu (fun hh=>e' hh.symm)
theorem Tame.made {Z : Nat} (C : Tame t n k m q nx gen ls) (hκ : κ < 4) (hm : 17 <= m) (z1 : 1 <= Z) (z2 : Z <= 16) (kz : classOf Z = κ) {x : Nat} {F : List Nat} (hF : q.F = x :: F) (hnd : q.F.Nodup) (hx : x < n) {y' : Y} {nx' a i : Nat} (g : Got k m κ (base t n k m) q.y nx y' nx' (.won a i)) : Tame t n k m (q.made x F y' a i κ Z own) nx' gen (q.ox gen x a i Z κ own :: ls):=by
 have hr:=room_bd κ
 have hsr:=size_room z1 kz
 obtain ⟨hik,ha,hu,⟨sp,hck⟩,hoth⟩:=g.won_is C.al hκ (by omega)
 have hg:=C.gen_is (by rw [hF];simp) hx
 have hF':=hnd
 rw [hF] at hF'
 have hxF : x ∉ F:=(List.nodup_cons.1 hF').1
 have hinF : ∀ v,v ∈ F -> v ∈ q.F:=fun v hv=>by rw [hF];exact List.mem_cons_of_mem _ hv
 have hne : ∀ o ∈ ls,o.x ≠ x:=fun o ho e=>(C.li o ho).nf (by rw [hF,e];simp)
 have hsep : ∀ o ∈ ls,o.i ≠ i \/ o.u + room o.κ <= (q.y.ck i).us:=fun o ho=>by
  by_cases e : o.i = i
  · right
    have:=(C.li o ho).us
    rwa [e] at this
  · exact Or.inl e
 have husm : ∀ j,(q.y.ck j).us <= (y'.ck j).us:=fun j=>by
  by_cases e : j = i
  · subst e;rw [hck];exact Nat.le_add_right _ _
  · rw [hoth j e];exact Nat.le_refl _
 refine ⟨g.alone C.al hκ,fun j hj=>?_,fun j hj v h1 h2=>?_,fun v hv=>?_,C.gb,fun o ho=>?_,fun o ho=>?_,fun o ho=>?_,List.pairwise_cons.2 ⟨fun o ho=>⟨(hne o ho).symm,?_⟩,C.pw⟩,fun j hj=>?_,fun b=>?_⟩
 · show (y'.ck j).us <= m
   by_cases e : j = i
   · subst e;rw [hck];exact hu
   · rw [hoth j e];exact C.us j hj
 · show upd (upd q.dw a _) a _ _ = 0
   have h1' : (y'.ck j).us <= v:=h1
   have hne : base t n k m j + v ≠ a:=by
    rw [ha]
    by_cases e : j = i
    · subst e;rw [hck] at h1'
      have h2' : (q.y.ck j).us + room κ <= v:=h1'
      omega
    · exact base_apart h2 (by omega) (Ne.symm e)
   rw [upd_other _ _ _ _ hne,upd_other _ _ _ _ hne]
   exact C.dw j hj v (Nat.le_trans (husm j) h1') h2
 · show upd q.sw x _ v = _
   have hv' : v ∈ F:=hv
   have hvx : v ≠ x:=fun e=>hxF (e ▸ hv')
   rw [upd_other _ _ _ _ hvx]
   exact C.sw v (hinF v hv')
 · rcases List.mem_cons.1 ho with rfl | ho
   · rfl
   · exact C.gn o ho
 · rcases List.mem_cons.1 ho with rfl | ho
   · exact ⟨z1,z2,kz,hκ,hx,(C.gb x hx).1,(C.gb x hx).2,hik,hu,ha⟩
   · exact C.ok o ho
 · rcases List.mem_cons.1 ho with rfl | ho
   · refine ⟨hxF,?_,?_,fun j h1 h2=>?_,?_⟩
     · show upd q.sw x _ x = packS 1 a (gen x : Nat) 0
       rw [upd_same,hg]
     · show upd (upd q.dw a _) a _ a = packOw 2 Z x (gen x : Nat) own
       rw [upd_same,hg]
     · have h2' : j <= Z:=h2
       show upd (upd q.dw a _) a _ (a + j) = 0
       rw [upd_other _ _ _ _ (by omega),upd_other _ _ _ _ (by omega),ha,Nat.add_assoc]
       exact C.dw i hik _ (by omega) (by omega)
     · show (q.y.ck i).us + room κ <= (y'.ck i).us
       rw [hck]
       exact Nat.le_refl _
   · have L:=C.li o ho
     have K:=C.ok o ho
     have hw : ∀ j,j <= o.Z -> o.a + j ≠ a:=fun j hj=>by rw [ha];exact Ox.word_apart K hj (by omega) (hsep o ho)
     refine ⟨fun hh=>L.nf (hinF _ hh),?_,?_,fun j h1 h2=>?_,Nat.le_trans L.us (husm _)⟩
     · show upd q.sw x _ o.x = _
       rw [upd_other _ _ _ _ (hne o ho)];exact L.sw
     · show upd (upd q.dw a _) a _ o.a = _
       have : o.a ≠ a:=hw 0 (Nat.zero_le _)
       rw [upd_other _ _ _ _ this,upd_other _ _ _ _ this];exact L.hw
     · show upd (upd q.dw a _) a _ (o.a + j) = 0
       have:=hw j h2
       rw [upd_other _ _ _ _ this,upd_other _ _ _ _ this];exact L.nt j h1 h2
 · show i ≠ o.i \/ (q.y.ck i).us + room κ <= o.u \/ o.u + room o.κ <= (q.y.ck i).us
   rcases hsep o ho with e | e
   · exact Or.inl (Ne.symm e)
   · exact Or.inr (Or.inr e)
 · show upd q.lv i (q.lv i + room κ) j = (if i = j then room κ else 0) + liveIn j ls
   by_cases e : j = i
   · subst e;rw [upd_same,if_pos rfl,C.lv j hj,Nat.add_comm]
   · rw [upd_other _ _ _ _ e,if_neg (Ne.symm e),C.lv j hj,Nat.zero_add]
 · show 0 <= upd (upd q.dw a _) a _ b /\ upd (upd q.dw a _) a _ b <= _
   by_cases e : b = a
   · subst e;rw [upd_same];exact ⟨(packOw_bd _ _ _ _ _).1,Int.le_trans (packOw_bd _ _ _ _ _).2 (by decide)⟩
   · rw [upd_other _ _ _ _ e,upd_other _ _ _ _ e];exact C.wb b
end
structure Farm (w0 w : World) (L : Loc) (bE t n k m : Nat) (cg : Int) (s : Mm) (σ : Nat) (q : Q) (nx : Nat) (gen : Nat -> Nat) (ls : List Ox) : Prop where
 mm : MemAt w L s
 tw : Town t n k m s σ q
 tm : Tame t n k m q nx gen ls
 v : BoxV w bE t n k m cg 600 3 L.p 0
 b : Below w0.heap.size w0 w
structure FarmApart (w0 : World) (L : Loc) (bE t n k m : Nat) (cg : Int) : Prop where
 l0 : ∀ k,L.has k -> w0.heap.size <= k
 e : ¬ L.has bE
 e0 : w0.heap.size <= bE
 g : Good t n k m cg 600 3
section
variable {w0 w w' : World} {L : Loc} {bE t n k m σ nx : Nat} {cg : Int} {s : Mm} {q : Q} {gen : Nat -> Nat} {ls : List Ox} {own : Bool}
theorem Farm.only {s' : Mm} {σ' : Nat} {q' : Q} {nx' : Nat} {gen' : Nat -> Nat} {ls' : List Ox} (f : Farm w0 w L bE t n k m cg s σ q nx gen ls) (a : FarmApart w0 L bE t n k m cg) (o : Only L.has w w') (mm : MemAt w' L s') (tw : Town t n k m s' σ' q') (tm : Tame t n k m q' nx' gen' ls') : Farm w0 w' L bE t n k m cg s' σ' q' nx' gen' ls' :=
 ⟨mm,tw,tm,f.v.only o a.e,mgrow f.b o a.l0⟩
theorem Farm.ok {Z κ x : Nat} {F : List Nat} {y' : Y} {nx' A i : Nat} (f : Farm w0 w L bE t n k m cg s σ q nx gen ls) (a : FarmApart w0 L bE t n k m cg) (z1 : 1 <= Z) (z2 : Z <= 16) (kz : classOf Z = κ) (hκ : κ < 4) (hF : q.F = x :: F) (g : Got k m κ (base t n k m) q.y nx y' nx' (.won A i)) (hσ : σ + 400 < 1000000) :
 Calls Tryz.prog 31 #[.agg #[.int .i64 t,.int .i64 n,.int .i64 k,.int .i64 m,.int .i64 cg,.int .i64 600,.int .i64 3,.pointer (some ⟨L.p,0,none⟩),.int .i64 0],.int .i64 Z,.bool own] w fun e w'=>∃ (st : Nat) (s' : Mm) (σ' : Nat),e = .returned (.agg #[.int .i64 0,.int .u64 (packH x (gen x)),.int .i64 0,.int .i64 st]) /\ σ < st /\ st < σ' /\ σ' <= σ + 100 /\ Farm w0 w' L bE t n k m cg s' σ' (q.made x F y' A i κ Z own) nx' gen (q.ox gen x A i Z κ own :: ls) /\ Only L.has w w':=by
 obtain ⟨N,y1,nx1,τ1,hN,go,g1⟩:=alone_goes (bs:=base t n k m) f.tm.al hκ a.g.n0 a.g.k0 a.g.k1
 obtain ⟨rfl,rfl,rfl⟩:=g.same g1
 have hk:=a.g.k1
 have hx : x < n:=f.tw.pile.lt x (by rw [hF];simp)
 have hg:=f.tm.gen_is (by rw [hF];simp) hx
 have r:=runs_made (z:=(Z : Int)) (own:=own) (σ:=σ) hF go
 rw [hg] at r
 refine (make_goes f.mm f.tw a.g (class_fit z2) kz hκ hσ (N:=N + 4 + 4) (by omega) r).mono ?_
 rintro e w' ⟨rfl,s',m',t',o'⟩
 exact ⟨_,s',_,rfl,by omega,by omega,by omega,f.only a o' m' t' (f.tm.made hκ a.g.n0 z1 z2 kz hF f.tw.pile.nd hx g),o'⟩
end
end Go.Proofs.YtkgpffcnimmdkaaGreat

namespace Go.Proofs.YtkgpffcnimmdkaaGreat
open Go.RowKit
def adOf (v : Int) : Nat:=(v / 8 % 1048576).toNat
def verOf' (v : Int) : Nat:=(v / 549755813888 % 4194304).toNat
def szOf (u : Int) : Nat:=(u / 4 % 65536).toNat
def ownOf (u : Int) : Bool:=decide (u / 1125899906842624 % 2 = 1)
def frozenIn (u : Int) (V : Nat) : Bool:=decide (9223372036854775808 <= u) && decide (u / 1099511627776 % 4194304 = (V : Int))
def froze (u : Int) (V : Nat) : Int:=packX (u % 1099511627776) true V
def Wd (v : Int) : Prop:=0 <= v /\ v <= 18446744073709551615
theorem slotIs (v : Int) (h : Wd v) : SlotIs v (v % 8) (adOf v) (genOf v) (verOf' v) :=
 ⟨h.1,h.2,rfl,by unfold adOf;omega,by unfold genOf;omega,by unfold verOf';omega⟩
theorem adOf_le (v : Int) : adOf v <= 1048575:=by unfold adOf;omega
theorem headIs (u : Int) (h : Wd u) : HeadIs u (u % 4) (szOf u) (u / 262144 % 65536) (u / 17179869184 % 65536) (ownOf u) :=
 ⟨h.1,h.2,rfl,by unfold szOf;omega,rfl,rfl,rfl⟩
theorem packX_wd (a : Int) (f : Bool) (d : Int) : Wd (packX a f d):=packX_bd a f d
theorem packS_wd (a b c d : Int) : Wd (packS a b c d):=⟨(packS_bd a b c d).1,Int.le_trans (packS_bd a b c d).2 (by decide)⟩
theorem packOw_wd (a b c d : Int) (o : Bool) : Wd (packOw a b c d o):=⟨(packOw_bd a b c d o).1,Int.le_trans (packOw_bd a b c d o).2 (by decide)⟩
theorem froze_wd (u : Int) (V : Nat) : Wd (froze u V):=packX_wd _ _ _
structure Obj9 (t n k m : Nat) (v : Int) (Z i : Nat) : Prop where
 wd : Wd v
 life : lifeB (v % 8) = true
 z1 : 1 <= Z
 z2 : Z <= 16
 ik : i < k
 ad : ∃ u,u + Z < m /\ adOf v = base t n k m i + u
theorem Obj9.c1 {t n k m : Nat} {v : Int} {Z i : Nat} (h : Obj9 t n k m v Z i) : chunkOf t n k m (adOf v) = i:=by
 obtain ⟨u,hu,e⟩:=h.ad
 rw [e];exact chunkOf_in (u:=u) h.ik (by have:=h.z1;omega)
theorem Obj9.c2 {t n k m : Nat} {v : Int} {Z i : Nat} (h : Obj9 t n k m v Z i) : chunkOf t n k m ((adOf v : Int) + (Z : Int)) = i:=by
 obtain ⟨u,hu,e⟩:=h.ad
 have : (adOf v : Int) + (Z : Int) = ((base t n k m i + (u + Z) : Nat) : Int):=by rw [e];omega
 rw [this];exact chunkOf_in h.ik hu
theorem Obj9.inn {t n k m : Nat} {v : Int} {Z i : Nat} (h : Obj9 t n k m v Z i) : 6 + t + n * 2 + k * 3 <= adOf v /\ adOf v + Z < 6 + t + n * 2 + k * 3 + k * m:=by
 obtain ⟨u,hu,e⟩:=h.ad
 have:=base_in (t:=t) (n:=n) (m:=m) (u:=u) (r:=Z + 1) h.ik (by omega)
 rw [e];omega
section
variable {w : World} {L : Loc} {s : Mm} {b o : Nat} {T : TypeId} {cs : Array Value} {t n k m σ : Nat} {g p r : Int} {q : Q}
theorem cas_hit {s : Mm} {who : Int} {a : Nat} {old v : Int} (h : s.wd a = old) : (s.by who).cas a old v = (s.by who).step a v:=by
 show (if s.wd a = old then _ else _) = _
 rw [if_pos h]
theorem cas_miss {s : Mm} {who : Int} {a : Nat} {old v : Int} (h : s.wd a ≠ old) : (s.by who).cas a old v = (s.by who).step a (s.wd a):=by
 show (if s.wd a = old then _ else _) = _
 rw [if_neg h];rfl
end
def Stands (t n k m : Nat) (q : Q) (v : Int) : Prop:=∃ i,Obj9 t n k m v (szOf (q.dw (adOf v))) i
theorem Town.uncounts {t n k m : Nat} {s : Mm} {σ : Nat} {q : Q} (h : Town t n k m s σ q) (hσ : σ < 1000000) (who : Int) {i r : Nat} (hi : i < k) (hr : r <= 17) (hl : r <= q.lv i) :
 Town t n k m ((s.by who).step (6 + t + n * 2 + i * 3 + 1) (sum64 (s.wd (6 + t + n * 2 + i * 3 + 1)) (word64 (-(r : Int))))) (σ + 1) { q with lv:=upd q.lv i (q.lv i - r) }:=by
 have hb:=h.lvb i hi
 have hv : sum64 (s.wd (6 + t + n * 2 + i * 3 + 1)) (word64 (-(r : Int))) = owe (q.lv i - r) (q.db i):=by
  rw [h.lvw i hi];exact owe_sub _ _ _ hl
 refine ⟨h.pile.off hσ who _ _ (by omega) (fun x hx=>by omega),h.yard.off hσ who _ _ (by omega) (fun j hj=>by omega),fun j hj=>?_,fun j hj=>?_,fun x hx=>?_,h.swb,fun b hb=>?_,?_⟩
 · by_cases e : j = i
   · subst e
     rw [Town.step_at,hv]
     show _ = owe (upd q.lv j (q.lv j - r) j) (q.db j)
     rw [upd_same]
   · rw [Town.step_wd who _ _ _ (by omega)]
     show _ = owe (upd q.lv i (q.lv i - r) j) (q.db j)
     rw [upd_other _ _ _ _ e];exact h.lvw j hj
 · show upd q.lv i (q.lv i - r) j <= 17 * (σ + 1)
   by_cases e : j = i
   · subst e;rw [upd_same];omega
   · rw [upd_other _ _ _ _ e];have:=h.lvb j hj;omega
 · rw [Town.step_wd who _ _ _ (by omega)];exact h.swv x hx
 · rw [Town.step_wd who _ _ _ (by omega)];exact h.dwv b hb
 · rw [Town.step_wd who _ _ _ (by omega)];exact h.ep
theorem class_room {Z : Nat} (z1 : 1 <= Z) (z2 : Z <= 16) : classOf Z = ((classOf Z).toNat : Nat) /\ (classOf Z).toNat < 4:=by
 unfold classOf
 rw [if_neg (by omega)]
 repeat' split
 all_goals omega
section
variable {w : World} {L : Loc} {s : Mm} {b o : Nat} {T : TypeId} {cs : Array Value} {t n k m σ : Nat} {g p r : Int} {q : Q} {nu : Int} {own : Bool}
end
end Go.Proofs.YtkgpffcnimmdkaaGreat

namespace Go.Proofs.YtkgpffcnimmdkaaGreat
open Go.RowKit
section
variable {w : World} {L : Loc} {t n k m σ : Nat} {s : Mm} {q : Q} {nu : Int} {own : Bool}
end
end Go.Proofs.YtkgpffcnimmdkaaGreat

namespace Go.Proofs.YtkgpffcnimmdkaaGreat
open Go.RowKit
theorem packS_all (st A G V : Nat) (h1 : st <= 7) (h2 : A <= 1048575) (h3 : G <= 65535) (h4 : V <= 4194303) : packS st A G V = st + A * 8 + G * 8388608 + V * 549755813888:=by
 unfold packS
 rw [cut_id st 3 (by omega) (by simp;omega),cut_id A 20 (by omega) (by simp;omega),cut_id G 16 (by omega) (by simp;omega),cut_id V 22 (by omega) (by simp;omega)]
theorem packS_dec {st A G V : Nat} (h1 : st <= 7) (h2 : A <= 1048575) (h3 : G <= 65535) (h4 : V <= 4194303) : packS st A G V % 8 = st /\ adOf (packS st A G V) = A /\ genOf (packS st A G V) = G /\ verOf' (packS st A G V) = V:=by
 rw [packS_all st A G V h1 h2 h3 h4]
 unfold adOf genOf verOf'
 refine ⟨?_,?_,?_,?_⟩ <;> omega
section
variable {t n k m : Nat} {cg : Int} {own : Bool} {x G : Nat}
end
end Go.Proofs.YtkgpffcnimmdkaaGreat

namespace Go.Proofs.YtkgpffcnimmdkaaGreat
open Go.RowKit
theorem handIs {x G : Nat} (hx : x <= 65535) (g1 : 1 <= G) (g2 : G <= 65535) : HandIs (packH x G) x G:=by
 rw [packH_is x G hx g2]
 refine ⟨?_,?_,?_,?_⟩ <;> omega
theorem packOw_dec {Z x G : Nat} {own : Bool} (hZ : Z <= 65535) (hx : x <= 65535) (hG : G <= 65535) : szOf (packOw 2 Z x G own) = Z /\ ownOf (packOw 2 Z x G own) = own:=by
 have e:=packOw_is 2 Z x G own (by decide) hZ hx hG
 rw [show ((2 : Nat) : Int) = 2 from rfl] at e
 rw [e]
 unfold szOf ownOf
 cases own
 · rw [if_neg (by decide)]
   exact ⟨by omega,decide_eq_false (by omega)⟩
 · rw [if_pos rfl]
   exact ⟨by omega,decide_eq_true (by omega)⟩
section
variable {t n k m nx : Nat} {q : Q} {gen : Nat -> Nat} {ls : List Ox} {cg : Int}
structure OxIs (t n k m : Nat) (q : Q) (o : Ox) : Prop where
 obj : Obj9 t n k m (q.sw o.x) o.Z o.i
 st : q.sw o.x % 8 = 1
 ad : adOf (q.sw o.x) = o.a
 gn : genOf (q.sw o.x) = o.g
 vr : verOf' (q.sw o.x) = 0
 sz : szOf (q.dw (adOf (q.sw o.x))) = o.Z
 ow : ownOf (q.dw (adOf (q.sw o.x))) = o.own
 cl : ∀ j,j < o.Z -> frozenIn (q.dw (adOf (q.sw o.x) + 1 + j)) (verOf' (q.sw o.x) + 1) = false
 rm : (classOf o.Z).toNat = o.κ
theorem Tame.is (C : Tame t n k m q nx gen ls) (hG : Good t n k m cg 600 3) (hn : n <= 65535) {o : Ox} (ho : o ∈ ls) : OxIs t n k m q o:=by
 have K:=C.ok o ho
 have A:=C.li o ho
 have hmk : k * m <= 64 * 256:=Nat.mul_le_mul hG.k1 hG.n1
 have ht:=hG.t1
 have hk:=hG.k1
 have hin:=base_in (t:=t) (n:=n) K.ik K.uk
 rw [<- K.ae] at hin
 have hr:=size_room K.z1 K.kz
 have hx1:=K.x1
 have dec:=packS_dec (st:=1) (A:=o.a) (G:=o.g) (V:=0) (by decide) (by omega) K.g2 (by decide)
 have e : q.sw o.x = packS ((1 : Nat) : Int) o.a o.g ((0 : Nat) : Int):=A.sw
 rw [<- e] at dec
 obtain ⟨d1,d2,d3,d4⟩:=dec
 have z2:=K.z2
 have g2:=K.g2
 obtain ⟨hs,hw2⟩:=packOw_dec (Z:=o.Z) (x:=o.x) (G:=o.g) (own:=o.own) (by omega) (by omega) g2
 rw [<- show q.dw o.a = packOw 2 o.Z o.x o.g o.own from A.hw] at hs hw2
 refine ⟨⟨by rw [e];exact packS_wd _ _ _ _,by rw [d1];rfl,K.z1,K.z2,K.ik,o.u,?_,by rw [d2];exact K.ae⟩,d1,d2,d3,d4,by rw [d2];exact hs,by rw [d2];exact hw2,fun j hj=>?_,by rw [K.kz];simp⟩
 · have:=K.uk;omega
 · rw [d2,Nat.add_assoc,A.nt (1 + j) (by omega) (by omega)]
   rfl
end
section
variable {w0 w w' : World} {L : Loc} {bE t n k m σ nx : Nat} {cg : Int} {s : Mm} {q : Q} {gen : Nat -> Nat} {own : Bool}
variable {ls : List Ox}
end
end Go.Proofs.YtkgpffcnimmdkaaGreat

namespace Go.Proofs.YtkgpffcnimmdkaaGreat
open Go.RowKit
structure Wt where
 kd : Int
 nu : Int
 ix : Int
 vl : Int
 ol : Int
def vOf (c : Int) : Int:=c % 1099511627776
def frB (c : Int) : Bool:=decide (9223372036854775808 <= c)
def crOf (c : Int) : Int:=if 9223372036854775808 <= c then c / 1099511627776 % 4194304 else 0
def Wt.other (W : Wt) (c : Int) : Bool:=decide (W.kd = 3) && decide (vOf c ≠ W.ol)
def Wt.reads (W : Wt) (c : Int) : Bool:=decide (W.kd = 1) || W.other c
inductive Ac where
 | see
 | ask (v : Int) (at_ : Nat)
 | load (v : Int) (Z : Nat)
 | check (v c : Int) (ld : Nat)
 | stop (v : Int)
 | lay (v c : Int)
 | over (E val : Int) (st : Nat)
def Ac.over? : Ac -> Bool
 | .over _ _ _=>true
 | _=>false
def Ac.nx : Ac -> Int
 | .see=>0
 | .ask _ _=>1
 | .load _ _=>2
 | .check _ _ _=>3
 | .stop _=>5
 | .lay _ _=>6
 | .over _ _ _=>7
theorem Ac.nx_over (α : Ac) : (α.nx == 7) = α.over?:=by cases α <;> rfl
def Wt.at (W : Wt) (v : Int) : Nat:=adOf v + 1 + W.ix.toNat
def stopW (v : Int) : Int:=packS 1 (adOf v) (genOf v) (verOf' v + 1)
def Wt.w (W : Wt) : Int:=packX W.vl false 0
def acAsk (W : Wt) (own : Bool) (σ : Nat) (v u : Int) (at_ : Nat) : Ac :=
 if ownOf u == own then (if 0 <= W.ix /\ W.ix < szOf u then .load v (szOf u) else .over 4 0 at_) else .over 3 0 (σ + 1)
def acLoad (W : Wt) (σ : Nat) (v c : Int) : Ac :=
 if W.reads c then .check v c (σ + 1)
 else if frB c && decide (crOf c = (verOf' v : Int)) && decide (v % 8 = 2) then .stop v
 else if frB c && decide ((verOf' v : Int) <= crOf c) then .see
 else .lay v c
def acCheck (W : Wt) (G σ : Nat) (v c s : Int) (ld : Nat) : Ac :=
 if lifeB (s % 8) && decide (genOf s = G) then
  (if adOf s = adOf v then (if W.other c then .over 8 (vOf c) ld else .over 0 (vOf c) ld) else .see)
 else .over 3 0 (σ + 1)
def acTurn (W : Wt) (own : Bool) (x G σ : Nat) (q : Q) : Ac -> Q × Ac
 | .see=>(q,if lifeB (q.sw x % 8) && decide (genOf (q.sw x) = G) then .ask (q.sw x) (σ + 1) else .over 3 0 (σ + 1))
 | .ask v at_=>(q,acAsk W own σ v (q.dw (adOf v)) at_)
 | .load v _=>(q,acLoad W σ v (q.dw (W.at v)))
 | .check v c ld=>(q,acCheck W G σ v c (q.sw x) ld)
 | .stop v=>(if q.sw x = v then { q with sw:=upd q.sw x (stopW v) } else q,.see)
 | .lay v c=>if q.dw (W.at v) = c then ({ q with dw:=upd q.dw (W.at v) W.w },.over 0 (vOf c) (σ + 1)) else (q,.see)
 | .over E val st=>(q,.over E val st)
def Ac.good (t n k m : Nat) (W : Wt) (x G : Nat) (q : Q) : Ac -> Prop
 | .see=>lifeB (q.sw x % 8) = true -> genOf (q.sw x) = G -> Stands t n k m q (q.sw x)
 | .ask v _=>Stands t n k m q v
 | .load v Z=>(∃ i,Obj9 t n k m v Z i) /\ 0 <= W.ix /\ W.ix < Z /\ v % 8 ≠ 4
 | .check v c _=>Wd v /\ Wd c
 | .stop v=>Wd v
 | .lay v c=>(∃ Z i,Obj9 t n k m v Z i /\ W.ix < Z) /\ 0 <= W.ix /\ Wd c
 | .over _ _ _=>True
def Ac.at (t x : Nat) (W : Wt) : Ac -> Nat
 | .see=>6 + t + x * 2
 | .ask v _=>adOf v
 | .load v _=>W.at v
 | .check _ _ _=>6 + t + x * 2
 | .stop _=>6 + t + x * 2
 | .lay v _=>W.at v
 | .over _ _ _=>0
def Ac.reads : Ac -> Bool
 | .see=>true
 | .ask _ _=>true
 | .load _ _=>true
 | .check _ _ _=>true
 | _=>false
theorem Wt.w_wd (W : Wt) : Wd W.w:=packX_wd _ _ _
theorem stopW_wd (v : Int) : Wd (stopW v):=packS_wd _ _ _ _
theorem acTurn_wd {W : Wt} {own : Bool} {x G σ : Nat} {q : Q} {α : Ac} {q' : Q} {α' : Ac} (h : ∀ a,Wd (q.dw a)) (ht : acTurn W own x G σ q α = (q',α')) : ∀ a,Wd (q'.dw a):=by
 cases α with
 | see=>obtain ⟨rfl,-⟩:=Prod.mk.inj ht;exact h
 | ask v at_=>obtain ⟨rfl,-⟩:=Prod.mk.inj ht;exact h
 | load v Z=>obtain ⟨rfl,-⟩:=Prod.mk.inj ht;exact h
 | check v c ld=>obtain ⟨rfl,-⟩:=Prod.mk.inj ht;exact h
 | stop v =>
  obtain ⟨rfl,-⟩:=Prod.mk.inj ht
  split <;> exact h
 | lay v c =>
  simp only [acTurn] at ht
  split at ht
  · obtain ⟨rfl,-⟩:=Prod.mk.inj ht
    intro a
    show Wd (upd q.dw _ _ a)
    unfold upd
    split
    · exact W.w_wd
    · exact h a
  · obtain ⟨rfl,-⟩:=Prod.mk.inj ht;exact h
 | over=>obtain ⟨rfl,-⟩:=Prod.mk.inj ht;exact h
inductive ARuns (t n k m : Nat) (W : Wt) (own : Bool) (x G : Nat) (b : Bool) : Nat -> Nat -> Q -> Ac -> Q -> Ac -> Prop where
 | one {σ : Nat} {q : Q} {α : Ac} {q' : Q} {α' : Ac} (hb : b = true -> α.reads = true) (ho : α.over? = false) (hg : α.good t n k m W x G q) (ht : acTurn W own x G σ q α = (q',α')) (h : α'.over? = true) : ARuns t n k m W own x G b 1 σ q α q' α'
 | more {N σ : Nat} {q : Q} {α : Ac} {q1 : Q} {α1 : Ac} {q' : Q} {α' : Ac} (hb : b = true -> α.reads = true) (ho : α.over? = false) (hg : α.good t n k m W x G q) (ht : acTurn W own x G σ q α = (q1,α1)) (h : α1.over? = false) (g : ARuns t n k m W own x G b N (σ + 1) q1 α1 q' α') : ARuns t n k m W own x G b (N + 1) σ q α q' α'
theorem ARuns.pos {t n k m : Nat} {W : Wt} {own : Bool} {x G : Nat} {b : Bool} {N σ : Nat} {q : Q} {α : Ac} {q' : Q} {α' : Ac} (g : ARuns t n k m W own x G b N σ q α q' α') : 1 <= N:=by
 cases g <;> omega
structure Scn (t n k m : Nat) (x G Z i : Nat) (v : Int) (own : Bool) (q : Q) : Prop where
 sw : q.sw x = v
 o : Obj9 t n k m v Z i
 st : v % 8 ≠ 4
 gn : genOf v = G
 sz : szOf (q.dw (adOf v)) = Z
 ow : ownOf (q.dw (adOf v)) = own
 wd : ∀ a,Wd (q.dw a)
 xn : x < n
section
variable {t n k m x G Z i σ : Nat} {v : Int} {own : Bool} {q : Q} {W : Wt}
theorem Scn.good_see (S : Scn t n k m x G Z i v own q) : Ac.good t n k m W x G q .see:=fun _ _=>⟨i,by rw [S.sw,S.sz];exact S.o⟩
theorem Scn.good_ask (S : Scn t n k m x G Z i v own q) (at_ : Nat) : Ac.good t n k m W x G q (.ask v at_):=⟨i,by rw [S.sz];exact S.o⟩
theorem Scn.turn_see (S : Scn t n k m x G Z i v own q) : acTurn W own x G σ q .see = (q,.ask v (σ + 1)):=by
 simp only [acTurn,S.sw,S.o.life,S.gn,decide_true,Bool.and_self,if_true]
theorem Scn.turn_ask (S : Scn t n k m x G Z i v own q) (h0 : 0 <= W.ix) (h1 : W.ix < Z) (at_ : Nat) : acTurn W own x G σ q (.ask v at_) = (q,.load v Z):=by
 simp only [acTurn,acAsk,S.ow,S.sz,beq_self_eq_true,if_true,h0,h1,and_self]
theorem Scn.turn_check (S : Scn t n k m x G Z i v own q) (c : Int) (ld : Nat) : acTurn W own x G σ q (.check v c ld) = (q,.over (if W.other c then 8 else 0) (vOf c) ld):=by
 simp only [acTurn,acCheck,S.sw,S.o.life,S.gn,decide_true,Bool.and_self,if_true]
 split <;> rfl
theorem Scn.reads (S : Scn t n k m x G Z i v own q) (h0 : 0 <= W.ix) (h1 : W.ix < Z) {c : Int} (hc : q.dw (W.at v) = c) (hr : W.reads c = true) : ARuns t n k m W own x G true 4 σ q .see q (.over (if W.other c then 8 else 0) (vOf c) (σ + 3)):=by
 refine .more (fun _=>rfl) rfl S.good_see S.turn_see rfl (.more (fun _=>rfl) rfl (S.good_ask _) (S.turn_ask h0 h1 _) rfl (.more (q1:=q) (α1:=.check v c (σ + 1 + 1 + 1)) (fun _=>rfl) rfl ⟨⟨i,S.o⟩,h0,h1,S.st⟩ ?_ rfl (.one (fun _=>rfl) rfl ⟨S.o.wd,by rw [<- hc];exact S.wd _⟩ (S.turn_check c _) rfl)))
 simp only [acTurn,acLoad,hc,hr,if_true]
theorem Scn.lays (S : Scn t n k m x G Z i v own q) (h0 : 0 <= W.ix) (h1 : W.ix < Z) {c : Int} (hc : q.dw (W.at v) = c) (hr : W.reads c = false) (hf : (frB c && decide ((verOf' v : Int) <= crOf c)) = false) : ARuns t n k m W own x G false 4 σ q .see { q with dw:=upd q.dw (W.at v) W.w } (.over 0 (vOf c) (σ + 4)):=by
 refine .more (by simp) rfl S.good_see S.turn_see rfl (.more (by simp) rfl (S.good_ask _) (S.turn_ask h0 h1 _) rfl (.more (q1:=q) (α1:=.lay v c) (by simp) rfl ⟨⟨i,S.o⟩,h0,h1,S.st⟩ ?_ rfl (.one (by simp) rfl ⟨⟨Z,i,S.o,h1⟩,h0,by rw [<- hc];exact S.wd _⟩ ?_ rfl)))
 · have h2 : (frB c && decide (crOf c = (verOf' v : Int)) && decide (v % 8 = 2)) = false:=by
    cases hb : frB c with
    | false=>rfl
    | true =>
     rw [hb,Bool.true_and] at hf
     have:=of_decide_eq_false hf
     rw [Bool.true_and,decide_eq_false (by omega),Bool.false_and]
   simp only [acTurn,acLoad,hc,hr,hf,h2,Bool.false_eq_true,if_false]
 · simp only [acTurn,hc,if_true]
end
theorem packX_val {z : Int} (h0 : 0 <= z) (h1 : z <= 1099511627775) : packX z false 0 = z:=by
 unfold packX
 rw [if_neg (by decide),cut_id z 40 h0 (by simp;omega)]
theorem vOf_val {z : Int} (h0 : 0 <= z) (h1 : z <= 1099511627775) : vOf z = z:=by
 unfold vOf;omega
theorem frB_val {z : Int} (h1 : z <= 1099511627775) : frB z = false:=decide_eq_false (by omega)
end Go.Proofs.YtkgpffcnimmdkaaGreat

namespace Go.Proofs.YtkgpffcnimmdkaaGreat
open Go.RowKit
structure Mw where
 A : Nat
 ia : Nat
 Z : Nat
 κ : Nat
 x : Nat
 G : Nat
 own : Bool
 tr : Int
structure Mw.ok (t n k m : Nat) (W : Mw) : Prop where
 z1 : 1 <= W.Z
 z2 : W.Z <= 16
 kz : classOf W.Z = W.κ
 k4 : W.κ < 4
 x1 : W.x < n
 g2 : W.G <= 65535
 ik : W.ia < k
 ad : ∃ u,u + W.Z < m /\ W.A = base t n k m W.ia + u
inductive Mv where
 | see (τ : Pl) (f : Nat)
 | place (v : Int) (τ : Pl) (f : Nat)
 | head (v : Int) (a i f : Nat)
 | mark (v : Int) (a i f : Nat)
 | load (v : Int) (a i j f : Nat)
 | freeze (v c : Int) (a i j f : Nat)
 | copy (v c : Int) (a i j f : Nat)
 | shw (v : Int) (a i f : Nat)
 | ready (a i : Nat)
 | grow (a i : Nat)
 | fall (a i : Nat)
 | bury (out : Int) (a i : Nat)
 | over (out : Int) (τ : Pl)
def Mv.over? : Mv -> Bool
 | .over _ _=>true
 | _=>false
def Mv.nx : Mv -> Int
 | .see _ _=>0
 | .place _ _ _=>1
 | .head _ _ _ _=>2
 | .mark _ _ _ _=>3
 | .load _ _ _ _ _=>4
 | .freeze _ _ _ _ _ _=>5
 | .copy _ _ _ _ _ _=>6
 | .shw _ _ _ _=>7
 | .ready _ _=>8
 | .grow _ _=>9
 | .fall _ _=>10
 | .bury _ _ _=>11
 | .over _ _=>12
theorem Mv.nx_over (μ : Mv) : (μ.nx == 12) = μ.over?:=by cases μ <;> rfl
def Mv.pl : Mv -> Pl
 | .see τ _=>τ
 | .place _ τ _=>τ
 | .head _ a i _=>.won a i
 | .mark _ a i _=>.won a i
 | .load _ a i _ _=>.won a i
 | .freeze _ _ a i _ _=>.won a i
 | .copy _ _ a i _ _=>.won a i
 | .shw _ a i _=>.won a i
 | .ready a i=>.won a i
 | .grow a i=>.won a i
 | .fall a i=>.won a i
 | .bury _ a i=>.won a i
 | .over _ τ=>τ
def mvEnd (out : Int) : Pl -> Mv
 | .won a i=>.bury out a i
 | τ=>.over out τ
def mvNext (v : Int) (f : Nat) : Pl -> Mv
 | .won a i=>.head v a i f
 | τ=>.place v τ f
def movW (v : Int) : Int:=packS 2 (adOf v) (genOf v) (verOf' v)
def shwW (v : Int) (a : Nat) : Int:=packS 1 a (genOf v) (verOf' v + 1)
def Mw.here (W : Mw) (v : Int) : Bool:=decide (genOf v = W.G) && decide (adOf v = W.A)
def mvSee (W : Mw) (v : Int) (τ : Pl) (f : Nat) : Mv :=
 if W.here v && decide (v % 8 = 4) then mvEnd 3 τ
 else if W.here v && decide (v % 8 = 1) then (if 4194302 <= verOf' v then mvEnd 3 τ else mvNext v f τ)
 else mvEnd 2 τ
def mvPlace (q : Q) (v : Int) (f : Nat) : Y × Pl -> Q × Mv
 | (y',.won a i)=>({ q with y:=y' },.head v a i f)
 | (y',.none)=>({ q with y:=y' },.over 4 .none)
 | (y',τ')=>({ q with y:=y' },.place v τ' f)
def Mw.hw (W : Mw) (kd : Int) : Int:=packOw kd W.Z W.x W.G W.own
def mvTurn (W : Mw) (k m : Nat) (bs : Nat -> Nat) (q : Q) : Mv -> Q × Mv
 | .see τ f=>(q,mvSee W (q.sw W.x) τ f)
 | .place v τ f=>mvPlace q v f (turn k m W.κ bs q.y τ)
 | .head v a i f=>({ q with dw:=upd q.dw a (W.hw 1) },.mark v a i f)
 | .mark v a i f=>if q.sw W.x = v then ({ q with sw:=upd q.sw W.x (movW v) },.load (movW v) a i 0 f) else (q,.see (.won a i) f)
 | .load v a i j f=>(q,if frB (q.dw (W.A + 1 + j)) && decide ((verOf' v : Int) <= crOf (q.dw (W.A + 1 + j))) then .copy v (q.dw (W.A + 1 + j)) a i j f else .freeze v (q.dw (W.A + 1 + j)) a i j f)
 | .freeze v c a i j f=>if q.dw (W.A + 1 + j) = c then ({ q with dw:=upd q.dw (W.A + 1 + j) (froze c (verOf' v)) },.copy v c a i j f) else (q,.load v a i j f)
 | .copy v c a i j f=>({ q with dw:=upd q.dw (a + 1 + j) (packX (vOf c) false 0) },if W.Z <= j + 1 then .shw v a i f else .load v a i (j + 1) f)
 | .shw v a i f=>if q.sw W.x = v then ({ q with sw:=upd q.sw W.x (shwW v a),lv:=upd q.lv i (q.lv i + room W.κ),db:=upd q.db i (q.db i + room W.κ) },.ready a i) else (q,if W.tr <= (f : Int) + 1 then .bury 3 a i else .see (.won a i) (f + 1))
 | .ready a i=>({ q with dw:=upd q.dw a (W.hw 2) },.grow a i)
 | .grow a i=>({ q with db:=upd q.db i (q.db i - room W.κ) },.fall a i)
 | .fall a i=>({ q with lv:=upd q.lv W.ia (q.lv W.ia - room W.κ) },.over 1 (.won a i))
 | .bury o a i=>({ q with dw:=upd q.dw a (W.hw 3) },.over o (.won a i))
 | .over o τ=>(q,.over o τ)
structure CpOk (t n k m κ a i : Nat) : Prop where
 ik : i < k
 ad : ∃ u,u + room κ <= m /\ a = base t n k m i + u
def Mv.good (t n k m σ : Nat) (W : Mw) (q : Q) : Mv -> Prop
 | .see τ f=>(τ = .see \/ ∃ a i,τ = .won a i /\ CpOk t n k m W.κ a i) /\ f <= 1000
 | .place v τ f=>τ.good k m W.κ σ /\ τ.over = false /\ Wd v /\ f <= 1000
 | .head v a i f=>CpOk t n k m W.κ a i /\ Wd v /\ f <= 1000
 | .mark v a i f=>CpOk t n k m W.κ a i /\ Wd v /\ f <= 1000
 | .load v a i j f=>CpOk t n k m W.κ a i /\ Wd v /\ j < W.Z /\ f <= 1000
 | .freeze v c a i j f=>CpOk t n k m W.κ a i /\ Wd v /\ Wd c /\ j < W.Z /\ f <= 1000
 | .copy v c a i j f=>CpOk t n k m W.κ a i /\ Wd v /\ Wd c /\ j < W.Z /\ f <= 1000
 | .shw v a i f=>CpOk t n k m W.κ a i /\ Wd v /\ f <= 1000
 | .ready a i=>CpOk t n k m W.κ a i
 | .grow a i=>CpOk t n k m W.κ a i /\ room W.κ <= q.db i
 | .fall a i=>CpOk t n k m W.κ a i /\ room W.κ <= q.lv W.ia
 | .bury _ a i=>CpOk t n k m W.κ a i
 | .over _ _=>True
def Mv.at (t n : Nat) (W : Mw) : Mv -> Nat
 | .see _ _=>6 + t + W.x * 2
 | .place _ τ _=>τ.at t n W.κ
 | .head _ a _ _=>a
 | .mark _ _ _ _=>6 + t + W.x * 2
 | .load _ _ _ j _=>W.A + 1 + j
 | .freeze _ _ _ _ j _=>W.A + 1 + j
 | .copy _ _ a _ j _=>a + 1 + j
 | .shw _ _ _ _=>6 + t + W.x * 2
 | .ready a _=>a
 | .grow _ i=>6 + t + n * 2 + i * 3 + 1
 | .fall _ _=>6 + t + n * 2 + W.ia * 3 + 1
 | .bury _ a _=>a
 | .over _ _=>0
theorem movW_wd (v : Int) : Wd (movW v):=packS_wd _ _ _ _
theorem shwW_wd (v : Int) (a : Nat) : Wd (shwW v a):=packS_wd _ _ _ _
theorem Mw.hw_wd (W : Mw) (kd : Int) : Wd (W.hw kd):=packOw_wd _ _ _ _ _
theorem upd_wd {f : Nat -> Int} (h : ∀ a,Wd (f a)) (x : Nat) {v : Int} (hv : Wd v) : ∀ a,Wd (upd f x v a):=fun a=>by
 unfold upd
 split
 · exact hv
 · exact h a
end Go.Proofs.YtkgpffcnimmdkaaGreat
