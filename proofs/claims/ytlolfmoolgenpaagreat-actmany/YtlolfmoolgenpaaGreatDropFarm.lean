import Derived.Test.YtlolfmoolgenpaaGreatDropGone
namespace Go.Proofs.YtlolfmoolgenpaaGreat
open Go.RowKit
theorem handIs {x G : Nat} (hx : x <= 65535) (g1 : 1 <= G) (g2 : G <= 65535) : HandIs (packH x G) x G:=by
 rw [packH_is x G hx g2]
 refine ⟨?_,?_,?_,?_⟩ <;> omega
theorem packOw_dec {Z x G : Nat} {own : Bool} (hZ : Z <= 65535) (hx : x <= 65535) (hG : G <= 65535) : szOf (packOw 2 Z x G own) = Z /\ ownOf (packOw 2 Z x G own) = own:=by
 have e:=packOw_is 2 Z x G own (by decide) hZ hx hG
 rw [show ((2 : Nat) : Int) = 2 from rfl] at e
 rw [e]
 unfold szOf ownOf
 cases own
 · rw [if_neg (by decide)]
   exact ⟨by omega,decide_eq_false (by omega)⟩
 · rw [if_pos rfl]
   exact ⟨by omega,decide_eq_true (by omega)⟩
theorem Ox.apart_symm {o o' : Ox} (h : o.apart o') : o'.apart o :=
 ⟨fun e=>h.1 e.symm,by rcases h.2 with e | e | e;exact Or.inl (fun k=>e k.symm);exact Or.inr (Or.inr e);exact Or.inr (Or.inl e)⟩
theorem liveIn_mid (i : Nat) (l1 : List Ox) (o : Ox) (l2 : List Ox) : liveIn i (l1 ++ o :: l2) = (if o.i = i then room o.κ else 0) + liveIn i (l1 ++ l2):=by
 induction l1 with
 | nil=>rfl
 | cons a l ih =>
  show (if a.i = i then room a.κ else 0) + liveIn i (l ++ o :: l2) = _ + ((if a.i = i then room a.κ else 0) + liveIn i (l ++ l2))
  rw [ih];omega
section
variable {t n k m nx : Nat} {q : Q} {gen : Nat -> Nat} {ls : List Ox} {cg : Int}
structure OxIs (t n k m : Nat) (q : Q) (o : Ox) : Prop where
 obj : Obj9 t n k m (q.sw o.x) o.Z o.i
 st : q.sw o.x % 8 = 1
 ad : adOf (q.sw o.x) = o.a
 gn : genOf (q.sw o.x) = o.g
 vr : verOf' (q.sw o.x) = 0
 sz : szOf (q.dw (adOf (q.sw o.x))) = o.Z
 ow : ownOf (q.dw (adOf (q.sw o.x))) = o.own
 cl : ∀ j,j < o.Z -> frozenIn (q.dw (adOf (q.sw o.x) + 1 + j)) (verOf' (q.sw o.x) + 1) = false
 rm : (classOf o.Z).toNat = o.κ
theorem frozenIn_val {z : Int} (h : z <= 1099511627775) (V : Nat) : frozenIn z V = false:=by
 unfold frozenIn
 rw [decide_eq_false (by omega),Bool.false_and]
theorem Tame.is (C : Tame t n k m q nx gen ls) (hG : Good t n k m cg 600 3) (hn : n <= 65535) {o : Ox} (ho : o ∈ ls) : OxIs t n k m q o:=by
 have K:=C.ok o ho
 have A:=C.li o ho
 have hmk : k * m <= 64 * 256:=Nat.mul_le_mul hG.k1 hG.n1
 have ht:=hG.t1
 have hk:=hG.k1
 have hin:=base_in (t:=t) (n:=n) K.ik K.uk
 rw [<- K.ae] at hin
 have hr:=size_room K.z1 K.kz
 have hx1:=K.x1
 have dec:=packS_dec (st:=1) (A:=o.a) (G:=o.g) (V:=0) (by decide) (by omega) K.g2 (by decide)
 have e : q.sw o.x = packS ((1 : Nat) : Int) o.a o.g ((0 : Nat) : Int):=A.sw
 rw [<- e] at dec
 obtain ⟨d1,d2,d3,d4⟩:=dec
 have z2:=K.z2
 have g2:=K.g2
 obtain ⟨hs,hw2⟩:=packOw_dec (Z:=o.Z) (x:=o.x) (G:=o.g) (own:=o.own) (by omega) (by omega) g2
 rw [<- show q.dw o.a = packOw 2 o.Z o.x o.g o.own from A.hw] at hs hw2
 refine ⟨⟨by rw [e];exact packS_wd _ _ _ _,by rw [d1];rfl,K.z1,K.z2,K.ik,o.u,?_,by rw [d2];exact K.ae⟩,d1,d2,d3,d4,by rw [d2];exact hs,by rw [d2];exact hw2,fun j hj=>?_,by rw [K.kz];simp⟩
 · have:=K.uk;omega
 · rw [d2,Nat.add_assoc]
   exact frozenIn_val (A.nt (1 + j) (by omega) (by omega)).2 _
theorem Tame.room_le {l1 l2 : List Ox} {o : Ox} (C : Tame t n k m q nx gen (l1 ++ o :: l2)) : room o.κ <= q.lv o.i:=by
 rw [C.lv o.i (C.ok o (by simp)).ik,liveIn_mid,if_pos rfl]
 omega
theorem Tame.end {l1 l2 : List Ox} {o : Ox} (C : Tame t n k m q nx gen (l1 ++ o :: l2)) (hG : Good t n k m cg 600 3) (hn : n <= 65535) : Tame t n k m (q.end cg o.x (q.sw o.x) o.Z o.i) nx gen (l1 ++ l2):=by
 have ho : o ∈ l1 ++ o :: l2:=by simp
 have hsub : ∀ o',o' ∈ l1 ++ l2 -> o' ∈ l1 ++ o :: l2:=fun o' h'=>by
  rcases List.mem_append.1 h' with h' | h' <;> simp [h']
 have I:=C.is hG hn ho
 have K:=C.ok o ho
 have hrm:=size_room K.z1 K.kz
 have hap : ∀ o',o' ∈ l1 ++ l2 -> o.apart o':=(List.pairwise_cons.1 ((List.pairwise_middle Ox.apart_symm).1 C.pw)).1
 have hout : ∀ o',o' ∈ l1 ++ l2 -> ∀ j',j' <= o'.Z -> ¬ (adOf (q.sw o.x) < o'.a + j' /\ o'.a + j' <= adOf (q.sw o.x) + o.Z):=by
  intro o' h' j' hj' ⟨h1,h2⟩
  rw [I.ad] at h1 h2
  have K':=C.ok o' (hsub o' h')
  have hrm':=size_room K'.z1 K'.kz
  have uk:=K.uk
  have uk':=K'.uk
  rcases (hap o' h').2 with e | e | e
  · refine Ox.word_apart K (j:=o'.a + j' - o.a) (i:=o'.i) (u:=o'.u + j') (by omega) (by omega) (Or.inl e) ?_
    have:=K'.ae;omega
  · refine Ox.word_apart K (j:=o'.a + j' - o.a) (i:=o'.i) (u:=o'.u + j') (by omega) (by omega) (Or.inr (by omega)) ?_
    have:=K'.ae;omega
  · refine Ox.word_apart K' (j:=j') (i:=o.i) (u:=o.u + (o'.a + j' - o.a)) (by omega) (by omega) (Or.inr (by omega)) ?_
    have:=K.ae;omega
 refine ⟨C.al,C.us,fun i hi u h1 h2=>?_,fun v hv=>?_,C.gb,fun o' h'=>C.gn o' (hsub o' h'),fun o' h'=>C.ok o' (hsub o' h'),fun o' h'=>?_,(List.pairwise_cons.1 ((List.pairwise_middle Ox.apart_symm).1 C.pw)).2,fun i hi=>?_,fun b=>?_⟩
 · show frz q.dw _ _ _ _ = 0
   have hus:=(C.li o ho).us
   rw [frz_out,C.dw i hi u h1 h2]
   rintro ⟨h3,h4⟩
   rw [I.ad] at h3 h4
   refine Ox.word_apart K (j:=base t n k m i + u - o.a) (i:=i) (u:=u) (by omega) h2 ?_ (by omega)
   by_cases e : o.i = i
   · right;rw [e] at hus;exact Nat.le_trans hus h1
   · exact Or.inl e
 · show upd q.sw o.x _ v = _
   have hvx : v ≠ o.x:=fun e=>(C.li o ho).nf (e ▸ hv)
   rw [upd_other _ _ _ _ hvx]
   exact C.sw v hv
 · have A':=C.li o' (hsub o' h')
   have hx : o'.x ≠ o.x:=fun e=>(hap o' h').1 e.symm
   refine ⟨A'.nf,?_,?_,fun j h1 h2=>?_,A'.us⟩
   · show upd q.sw o.x _ o'.x = _
     rw [upd_other _ _ _ _ hx];exact A'.sw
   · show frz q.dw _ _ _ o'.a = _
     rw [frz_out _ _ _ _ o'.a (hout o' h' 0 (Nat.zero_le _))];exact A'.hw
   · show 0 <= frz q.dw _ _ _ (o'.a + j) /\ frz q.dw _ _ _ (o'.a + j) <= _
     rw [frz_out _ _ _ _ _ (hout o' h' j h2)];exact A'.nt j h1 h2
 · show upd q.lv o.i (q.lv o.i - room (classOf o.Z).toNat) i = _
   have hlv:=C.lv i hi
   rw [liveIn_mid] at hlv
   rw [I.rm]
   by_cases e : i = o.i
   · subst e;rw [upd_same,hlv,if_pos rfl];omega
   · rw [upd_other _ _ _ _ e,hlv,if_neg (fun h=>e h.symm),Nat.zero_add]
 · show Wd (frz q.dw _ _ _ b)
   unfold frz
   split
   · exact froze_wd _ _
   · exact C.wb b
theorem Tame.gone {l1 l2 : List Ox} {o : Ox} (C : Tame t n k m q nx gen (l1 ++ o :: l2)) (hG : Good t n k m cg 600 3) (hn : n <= 65535) (hl : (o.g : Int) < cg) : Tame t n k m (q.gone cg o.x (q.sw o.x) o.Z o.i) nx (upd gen o.x (o.g + 1)) (l1 ++ l2):=by
 have ho : o ∈ l1 ++ o :: l2:=by simp
 have I:=C.is hG hn ho
 have hg1:=hG.g1
 have hap : ∀ o',o' ∈ l1 ++ l2 -> o.apart o':=(List.pairwise_cons.1 ((List.pairwise_middle Ox.apart_symm).1 C.pw)).1
 obtain ⟨al,us,dw,sw,gb,gn,ok,li,pw,lv,wb⟩:=C.end hG hn
 refine ⟨al,us,dw,fun v hv=>?_,fun v hv=>?_,fun o' h'=>?_,ok,fun o' h'=>?_,pw,lv,wb⟩
 · rcases List.mem_cons.1 hv with rfl | hv
   · show upd q.sw _ _ _ = _
     rw [upd_same,upd_same]
     unfold behindW
     rw [I.gn,if_neg (by omega)]
     congr 1
   · have hvx : v ≠ o.x:=fun e=>(C.li o ho).nf (e ▸ hv)
     rw [upd_other _ _ _ _ hvx];exact sw v hv
 · by_cases e : v = o.x
   · subst e;rw [upd_same];omega
   · rw [upd_other _ _ _ _ e];exact gb v hv
 · have hx : o'.x ≠ o.x:=fun e=>(hap o' h').1 e.symm
   rw [upd_other _ _ _ _ hx];exact gn o' h'
 · have hx : o'.x ≠ o.x:=fun e=>(hap o' h').1 e.symm
   have A':=li o' h'
   refine ⟨fun hh=>?_,A'.sw,A'.hw,A'.nt,A'.us⟩
   rcases List.mem_cons.1 hh with e | hh
   · exact hx e
   · exact A'.nf hh
end
section
variable {w0 w w' : World} {L : Loc} {bE t n k m σ nx : Nat} {cg : Int} {s : Mm} {q : Q} {gen : Nat -> Nat} {own : Bool}
variable {ls : List Ox}
end
end Go.Proofs.YtlolfmoolgenpaaGreat
