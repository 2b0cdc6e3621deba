import Derived.Test.YtlolfmoolgenpaaGreatAllocCamp
namespace Go.Proofs.YtlolfmoolgenpaaGreat
open Go.RowKit
structure Ox where
 x : Nat
 g : Nat
 a : Nat
 i : Nat
 u : Nat
 Z : Nat
 κ : Nat
 own : Bool
structure Ox.ok (t n k m : Nat) (o : Ox) : Prop where
 z1 : 1 <= o.Z
 z2 : o.Z <= 16
 kz : classOf o.Z = o.κ
 k4 : o.κ < 4
 x1 : o.x < n
 g1 : 1 <= o.g
 g2 : o.g <= 65535
 ik : o.i < k
 uk : o.u + room o.κ <= m
 ae : o.a = base t n k m o.i + o.u
structure Ox.lies (q : Q) (o : Ox) : Prop where
 nf : o.x ∉ q.F
 sw : q.sw o.x = packS 1 o.a o.g 0
 hw : q.dw o.a = packOw 2 o.Z o.x o.g o.own
 nt : ∀ j,1 <= j -> j <= o.Z -> 0 <= q.dw (o.a + j) /\ q.dw (o.a + j) <= 1099511627775
 us : o.u + room o.κ <= (q.y.ck o.i).us
def Ox.apart (o o' : Ox) : Prop:=o.x ≠ o'.x /\ (o.i ≠ o'.i \/ o.u + room o.κ <= o'.u \/ o'.u + room o'.κ <= o.u)
def liveIn (i : Nat) : List Ox -> Nat
 | []=>0
 | o :: l=>(if o.i = i then room o.κ else 0) + liveIn i l
structure Tame (t n k m : Nat) (q : Q) (nx : Nat) (gen : Nat -> Nat) (ls : List Ox) : Prop where
 al : Alone k q.y nx
 us : ∀ i,i < k -> (q.y.ck i).us <= m
 dw : ∀ i,i < k -> ∀ u,(q.y.ck i).us <= u -> u < m -> q.dw (base t n k m i + u) = 0
 sw : ∀ x,x ∈ q.F -> q.sw x = packS 0 0 (gen x) 0
 gb : ∀ x,x < n -> 1 <= gen x /\ gen x <= 65535
 gn : ∀ o ∈ ls,gen o.x = o.g
 ok : ∀ o ∈ ls,o.ok t n k m
 li : ∀ o ∈ ls,o.lies q
 pw : ls.Pairwise Ox.apart
 lv : ∀ i,i < k -> q.lv i = liveIn i ls
 wb : ∀ a,0 <= q.dw a /\ q.dw a <= 18446744073709551615
theorem pack_free (G : Nat) (hG : G <= 65535) : packS 0 0 (G : Int) 0 = G * 8388608:=by
 unfold packS
 rw [cut_id 0 3 (by omega) (by decide),cut_id 0 20 (by omega) (by decide),cut_id G 16 (by omega) (by simp;omega),cut_id 0 22 (by omega) (by decide)]
 omega
theorem gen_free {G : Nat} (hG : G <= 65535) : genOf (packS 0 0 (G : Int) 0) = G:=by
 rw [pack_free G hG]
 unfold genOf
 omega
theorem tame0 (t n k m : Nat) : Tame t n k m (Q.new n) 0 (fun _=>1) [] :=
 ⟨alone0 k,fun _ _=>Nat.zero_le _,fun _ _ _ _ _=>rfl,fun _ _=>by show (8388608 : Int) = _;rw [pack_free 1 (by decide)];rfl,fun _ _=>⟨Nat.le_refl _,by decide⟩,fun _ h=>(by cases h),fun _ h=>(by cases h),fun _ h=>(by cases h),.nil,fun _ _=>rfl,fun _=>⟨Int.le_refl 0,show (0 : Int) <= 18446744073709551615 by decide⟩⟩
section
variable {t n k m κ nx : Nat} {q : Q} {gen : Nat -> Nat} {ls : List Ox} {own : Bool}
def Q.ox (q : Q) (gen : Nat -> Nat) (x a i Z κ : Nat) (own : Bool) : Ox:=⟨x,gen x,a,i,(q.y.ck i).us,Z,κ,own⟩
theorem Tame.gen_is (C : Tame t n k m q nx gen ls) {x : Nat} (hx : x ∈ q.F) (hn : x < n) : genOf (q.sw x) = gen x:=by
 rw [C.sw x hx];exact gen_free (C.gb x hn).2
theorem Ox.word_apart {o : Ox} (h : o.ok t n k m) {j i u : Nat} (hj : j <= o.Z) (hu : u < m) (hd : o.i ≠ i \/ o.u + room o.κ <= u) : o.a + j ≠ base t n k m i + u:=by
 have hr:=size_room h.z1 h.kz
 have huk:=h.uk
 rw [h.ae,Nat.add_assoc]
 rcases Nat.lt_or_ge 0 (if o.i = i then 1 else 0) with e | e
 · have e' : o.i = i:=by
    by_cases e' : o.i = i
    · exact e'
    · rw [if_neg e'] at e;omega
   rw [e']
   have : o.u + room o.κ <= u:=hd.resolve_left (fun hh=>hh e')
   omega
 · have e' : ¬ o.i = i:=fun e'=>by rw [if_pos e'] at e;omega
   exact base_apart (i:=o.i) (j:=i) (by omega) hu (fun hh=>e' hh.symm)
theorem Tame.made {Z : Nat} (C : Tame t n k m q nx gen ls) (hκ : κ < 4) (hm : 17 <= m) (z1 : 1 <= Z) (z2 : Z <= 16) (kz : classOf Z = κ) {x : Nat} {F : List Nat} (hF : q.F = x :: F) (hnd : q.F.Nodup) (hx : x < n) {y' : Y} {nx' a i : Nat} (g : Got k m κ (base t n k m) q.y nx y' nx' (.won a i)) : Tame t n k m (q.made x F y' a i κ Z own) nx' gen (q.ox gen x a i Z κ own :: ls):=by
 have hr:=room_bd κ
 have hsr:=size_room z1 kz
 obtain ⟨hik,ha,hu,⟨sp,hck⟩,hoth⟩:=g.won_is C.al hκ (by omega)
 have hg:=C.gen_is (by rw [hF];simp) hx
 have hF':=hnd
 rw [hF] at hF'
 have hxF : x ∉ F:=(List.nodup_cons.1 hF').1
 have hinF : ∀ v,v ∈ F -> v ∈ q.F:=fun v hv=>by rw [hF];exact List.mem_cons_of_mem _ hv
 have hne : ∀ o ∈ ls,o.x ≠ x:=fun o ho e=>(C.li o ho).nf (by rw [hF,e];simp)
 have hsep : ∀ o ∈ ls,o.i ≠ i \/ o.u + room o.κ <= (q.y.ck i).us:=fun o ho=>by
  by_cases e : o.i = i
  · right
    have:=(C.li o ho).us
    rwa [e] at this
  · exact Or.inl e
 have husm : ∀ j,(q.y.ck j).us <= (y'.ck j).us:=fun j=>by
  by_cases e : j = i
  · subst e;rw [hck];exact Nat.le_add_right _ _
  · rw [hoth j e];exact Nat.le_refl _
 refine ⟨g.alone C.al hκ,fun j hj=>?_,fun j hj v h1 h2=>?_,fun v hv=>?_,C.gb,fun o ho=>?_,fun o ho=>?_,fun o ho=>?_,List.pairwise_cons.2 ⟨fun o ho=>⟨(hne o ho).symm,?_⟩,C.pw⟩,fun j hj=>?_,fun b=>?_⟩
 · show (y'.ck j).us <= m
   by_cases e : j = i
   · subst e;rw [hck];exact hu
   · rw [hoth j e];exact C.us j hj
 · show upd (upd q.dw a _) a _ _ = 0
   have h1' : (y'.ck j).us <= v:=h1
   have hne : base t n k m j + v ≠ a:=by
    rw [ha]
    by_cases e : j = i
    · subst e;rw [hck] at h1'
      have h2' : (q.y.ck j).us + room κ <= v:=h1'
      omega
    · exact base_apart h2 (by omega) (Ne.symm e)
   rw [upd_other _ _ _ _ hne,upd_other _ _ _ _ hne]
   exact C.dw j hj v (Nat.le_trans (husm j) h1') h2
 · show upd q.sw x _ v = _
   have hv' : v ∈ F:=hv
   have hvx : v ≠ x:=fun e=>hxF (e ▸ hv')
   rw [upd_other _ _ _ _ hvx]
   exact C.sw v (hinF v hv')
 · rcases List.mem_cons.1 ho with rfl | ho
   · rfl
   · exact C.gn o ho
 · rcases List.mem_cons.1 ho with rfl | ho
   · exact ⟨z1,z2,kz,hκ,hx,(C.gb x hx).1,(C.gb x hx).2,hik,hu,ha⟩
   · exact C.ok o ho
 · rcases List.mem_cons.1 ho with rfl | ho
   · refine ⟨hxF,?_,?_,fun j h1 h2=>?_,?_⟩
     · show upd q.sw x _ x = packS 1 a (gen x : Nat) 0
       rw [upd_same,hg]
     · show upd (upd q.dw a _) a _ a = packOw 2 Z x (gen x : Nat) own
       rw [upd_same,hg]
     · have h2' : j <= Z:=h2
       show 0 <= upd (upd q.dw a _) a _ (a + j) /\ upd (upd q.dw a _) a _ (a + j) <= _
       rw [upd_other _ _ _ _ (by omega),upd_other _ _ _ _ (by omega),ha,Nat.add_assoc,C.dw i hik _ (by omega) (by omega)]
       exact ⟨Int.le_refl _,by decide⟩
     · show (q.y.ck i).us + room κ <= (y'.ck i).us
       rw [hck]
       exact Nat.le_refl _
   · have L:=C.li o ho
     have K:=C.ok o ho
     have hw : ∀ j,j <= o.Z -> o.a + j ≠ a:=fun j hj=>by rw [ha];exact Ox.word_apart K hj (by omega) (hsep o ho)
     refine ⟨fun hh=>L.nf (hinF _ hh),?_,?_,fun j h1 h2=>?_,Nat.le_trans L.us (husm _)⟩
     · show upd q.sw x _ o.x = _
       rw [upd_other _ _ _ _ (hne o ho)];exact L.sw
     · show upd (upd q.dw a _) a _ o.a = _
       have : o.a ≠ a:=hw 0 (Nat.zero_le _)
       rw [upd_other _ _ _ _ this,upd_other _ _ _ _ this];exact L.hw
     · show 0 <= upd (upd q.dw a _) a _ (o.a + j) /\ upd (upd q.dw a _) a _ (o.a + j) <= _
       have:=hw j h2
       rw [upd_other _ _ _ _ this,upd_other _ _ _ _ this];exact L.nt j h1 h2
 · show i ≠ o.i \/ (q.y.ck i).us + room κ <= o.u \/ o.u + room o.κ <= (q.y.ck i).us
   rcases hsep o ho with e | e
   · exact Or.inl (Ne.symm e)
   · exact Or.inr (Or.inr e)
 · show upd q.lv i (q.lv i + room κ) j = (if i = j then room κ else 0) + liveIn j ls
   by_cases e : j = i
   · subst e;rw [upd_same,if_pos rfl,C.lv j hj,Nat.add_comm]
   · rw [upd_other _ _ _ _ e,if_neg (Ne.symm e),C.lv j hj,Nat.zero_add]
 · show 0 <= upd (upd q.dw a _) a _ b /\ upd (upd q.dw a _) a _ b <= _
   by_cases e : b = a
   · subst e;rw [upd_same];exact ⟨(packOw_bd _ _ _ _ _).1,Int.le_trans (packOw_bd _ _ _ _ _).2 (by decide)⟩
   · rw [upd_other _ _ _ _ e,upd_other _ _ _ _ e];exact C.wb b
theorem Tame.back (C : Tame t n k m q nx gen ls) {x : Nat} {F : List Nat} (hF : q.F = x :: F) : Tame t n k m (q.back x F q.y) nx gen ls :=
 ⟨C.al,C.us,C.dw,fun v hv=>C.sw v (by rw [hF];exact hv),C.gb,C.gn,C.ok,fun o ho=>⟨fun hh=>(C.li o ho).nf (by rw [hF];exact hh),(C.li o ho).sw,(C.li o ho).hw,(C.li o ho).nt,(C.li o ho).us⟩,C.pw,C.lv,C.wb⟩
end
structure FarmApart (w0 : World) (L : Loc) (bE t n k m : Nat) (cg : Int) : Prop where
 l0 : ∀ k,L.has k -> w0.heap.size <= k
 e : ¬ L.has bE
 e0 : w0.heap.size <= bE
 g : Good t n k m cg 600 3
section
variable {w0 w w' : World} {L : Loc} {bE t n k m σ nx : Nat} {cg : Int} {s : Mm} {q : Q} {gen : Nat -> Nat} {ls : List Ox} {own : Bool}
end
end Go.Proofs.YtlolfmoolgenpaaGreat
