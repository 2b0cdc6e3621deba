import Derived.Test.YtmnnhjhhhfabiaaGreatDropGo
namespace Go.Proofs.YtmnnhjhhhfabiaaGreat
open Go.RowKit
section
structure Ox where
 x : Nat
 g : Nat
 a : Nat
 i : Nat
 u : Nat
 Z : Nat
 κ : Nat
 own : Bool
structure Ox.ok (t n k m : Nat) (o : Ox) : Prop where
 z1 : 1 <= o.Z
 z2 : o.Z <= 16
 kz : ZM o.Z = o.κ
 k4 : o.κ < 4
 x1 : o.x < n
 g1 : 1 <= o.g
 g2 : o.g <= 65535
 ik : o.i < k
 uk : o.u + room o.κ <= m
 ae : o.a = base t n k m o.i + o.u
structure Ox.lies (q : Q) (o : Ox) : Prop where
 nf : o.x ∉ q.F
 sw : q.sw o.x = Zp 1 o.a o.g 0
 hw : q.dw o.a = Zg 2 o.Z o.x o.g o.own
 nt : ∀ j,1 <= j -> j <= o.Z -> q.dw (o.a + j) = 0
 us : o.u + room o.κ <= (q.y.ck o.i).us
def Ox.apart (o o' : Ox) : Prop:=o.x ≠ o'.x /\ (o.i ≠ o'.i \/ o.u + room o.κ <= o'.u \/ o'.u + room o'.κ <= o.u)
def Yk (i : Nat) : List Ox -> Nat
 | []=>0
 | o :: l=>(if o.i = i then room o.κ else 0) + Yk i l
structure WY (t n k m : Nat) (q : Q) (nx : Nat) (gen : Nat -> Nat) (ls : List Ox) : Prop where
 al : Alone k q.y nx
 us : ∀ i,i < k -> (q.y.ck i).us <= m
 dw : ∀ i,i < k -> ∀ u,(q.y.ck i).us <= u -> u < m -> q.dw (base t n k m i + u) = 0
 sw : ∀ x,x ∈ q.F -> q.sw x = Zp 0 0 (gen x) 0
 gb : ∀ x,x < n -> 1 <= gen x /\ gen x <= 65535
 gn : ∀ o ∈ ls,gen o.x = o.g
 ok : ∀ o ∈ ls,o.ok t n k m
 li : ∀ o ∈ ls,o.lies q
 pw : ls.Pairwise Ox.apart
 lv : ∀ i,i < k -> q.lv i = Yk i ls
 wb : ∀ a,0 <= q.dw a /\ q.dw a <= 18446744073709551615
theorem SX (G : Nat) (hG : G <= 65535) : Zp 0 0 (G : Int) 0 = G * 8388608:=by
 unfold Zp
 rw [YI 0 3 (by omega) (by decide),YI 0 20 (by omega) (by decide),YI G 16 (by omega) (by simp;omega),YI 0 22 (by omega) (by decide)]
 omega
theorem Ci {G : Nat} (hG : G <= 65535) : Zz (Zp 0 0 (G : Int) 0) = G:=by
 rw [SX G hG]
 unfold Zz
 omega
theorem uu (t n k m : Nat) : WY t n k m (Q.new n) 0 (fun _=>1) [] :=
 ⟨vV k,fun _ _=>Nat.zero_le _,fun _ _ _ _ _=>rfl,fun _ _=>by show (8388608 : Int) = _;rw [SX 1 (by decide)];rfl,fun _ _=>⟨Nat.le_refl _,by decide⟩,fun _ h=>(by cases h),fun _ h=>(by cases h),fun _ h=>(by cases h),.nil,fun _ _=>rfl,fun _=>⟨Int.le_refl 0,show (0 : Int) <= 18446744073709551615 by decide⟩⟩
section
variable {t n k m κ nx : Nat} {q : Q} {gen : Nat -> Nat} {ls : List Ox} {own : Bool}
def Q.ox (q : Q) (gen : Nat -> Nat) (x a i Z κ : Nat) (own : Bool) : Ox:=⟨x,gen x,a,i,(q.y.ck i).us,Z,κ,own⟩
theorem WY.OM (C : WY t n k m q nx gen ls) {x : Nat} (hx : x ∈ q.F) (hn : x < n) : Zz (q.sw x) = gen x:=by
 rw [C.sw x hx];exact Ci (C.gb x hn).2
theorem Ox.XY {o : Ox} (h : o.ok t n k m) {j i u : Nat} (hj : j <= o.Z) (hu : u < m) (hd : o.i ≠ i \/ o.u + room o.κ <= u) : o.a + j ≠ base t n k m i + u:=by
 have hr:=Yb h.z1 h.kz
 have oW:=h.uk
 rw [h.ae,Nat.add_assoc]
 rcases Nat.lt_or_ge 0 (if o.i = i then 1 else 0) with e | e
 · have e' : o.i = i:=by
    by_cases e' : o.i = i
    · exact e'
    · rw [if_neg e'] at e;omega
   rw [e']
   have : o.u + room o.κ <= u:=hd.resolve_left (fun hh=>hh e')
   omega
 · have e' : ¬ o.i = i:=fun e'=>by rw [if_pos e'] at e;omega
   exact Q8 (i:=o.i) (j:=i) (by omega) hu (fun hh=>e' hh.symm)
theorem WY.made {Z : Nat} (C : WY t n k m q nx gen ls) (hκ : κ < 4) (hm : 17 <= m) (z1 : 1 <= Z) (z2 : Z <= 16) (kz : ZM Z = κ) {x : Nat} {F : List Nat} (hF : q.F = x :: F) (hnd : q.F.Nodup) (hx : x < n) {y' : Y} {nx' a i : Nat} (g : LK k m κ (base t n k m) q.y nx y' nx' (.Yn a i)) : WY t n k m (q.made x F y' a i κ Z own) nx' gen (q.ox gen x a i Z κ own :: ls):=by
 have hr:=Zv κ
 have vk:=Yb z1 kz
 obtain ⟨hik,ha,hu,⟨sp,hck⟩,hoth⟩:=g.Ew C.al hκ (by omega)
 have hg:=C.OM (by rw [hF];simp) hx
 have hF':=hnd
 rw [hF] at hF'
 have UK : x ∉ F:=(List.nodup_cons.1 hF').1
 have sJ : ∀ v,v ∈ F -> v ∈ q.F:=fun v hv=>by rw [hF];exact List.mem_cons_of_mem _ hv
 have hne : ∀ o ∈ ls,o.x ≠ x:=fun o ho e=>(C.li o ho).nf (by rw [hF,e];simp)
 have hsep : ∀ o ∈ ls,o.i ≠ i \/ o.u + room o.κ <= (q.y.ck i).us:=fun o ho=>by
  by_cases e : o.i = i
  · right
    have:=(C.li o ho).us
    rwa [e] at this
  · exact Or.inl e
 have sH : ∀ j,(q.y.ck j).us <= (y'.ck j).us:=fun j=>by
  by_cases e : j = i
  · subst e;rw [hck];exact Nat.le_add_right _ _
  · rw [hoth j e];exact Nat.le_refl _
 refine ⟨g.alone C.al hκ,fun j hj=>?_,fun j hj v h1 h2=>?_,fun v hv=>?_,C.gb,fun o ho=>?_,fun o ho=>?_,fun o ho=>?_,List.pairwise_cons.2 ⟨fun o ho=>⟨(hne o ho).symm,?_⟩,C.pw⟩,fun j hj=>?_,fun b=>?_⟩
 · show (y'.ck j).us <= m
   by_cases e : j = i
   · subst e;rw [hck];exact hu
   · rw [hoth j e];exact C.us j hj
 · show upd (upd q.dw a _) a _ _ = 0
   have h1' : (y'.ck j).us <= v:=h1
   have hne : base t n k m j + v ≠ a:=by
    rw [ha]
    by_cases e : j = i
    · subst e;rw [hck] at h1'
      have h2' : (q.y.ck j).us + room κ <= v:=h1'
      omega
    · exact Q8 h2 (by omega) (Ne.symm e)
   rw [Z7 _ _ _ _ hne,Z7 _ _ _ _ hne]
   exact C.dw j hj v (Nat.le_trans (sH j) h1') h2
 · show upd q.sw x _ v = _
   have hv' : v ∈ F:=hv
   have sQ : v ≠ x:=fun e=>UK (e ▸ hv')
   rw [Z7 _ _ _ _ sQ]
   exact C.sw v (sJ v hv')
 · rcases List.mem_cons.1 ho with rfl | ho
   · rfl
   · exact C.gn o ho
 · rcases List.mem_cons.1 ho with rfl | ho
   · exact ⟨z1,z2,kz,hκ,hx,(C.gb x hx).1,(C.gb x hx).2,hik,hu,ha⟩
   · exact C.ok o ho
 · rcases List.mem_cons.1 ho with rfl | ho
   · refine ⟨UK,?_,?_,fun j h1 h2=>?_,?_⟩
     · show upd q.sw x _ x = Zp 1 a (gen x : Nat) 0
       rw [upd_same,hg]
     · show upd (upd q.dw a _) a _ a = Zg 2 Z x (gen x : Nat) own
       rw [upd_same,hg]
     · have h2' : j <= Z:=h2
       show upd (upd q.dw a _) a _ (a + j) = 0
       rw [Z7 _ _ _ _ (by omega),Z7 _ _ _ _ (by omega),ha,Nat.add_assoc]
       exact C.dw i hik _ (by omega) (by omega)
     · show (q.y.ck i).us + room κ <= (y'.ck i).us
       rw [hck]
       exact Nat.le_refl _
   · have L:=C.li o ho
     have K:=C.ok o ho
     have hw : ∀ j,j <= o.Z -> o.a + j ≠ a:=fun j hj=>by rw [ha];exact Ox.XY K hj (by omega) (hsep o ho)
     refine ⟨fun hh=>L.nf (sJ _ hh),?_,?_,fun j h1 h2=>?_,Nat.le_trans L.us (sH _)⟩
     · show upd q.sw x _ o.x = _
       rw [Z7 _ _ _ _ (hne o ho)];exact L.sw
     · show upd (upd q.dw a _) a _ o.a = _
       have : o.a ≠ a:=hw 0 (Nat.zero_le _)
       rw [Z7 _ _ _ _ this,Z7 _ _ _ _ this];exact L.hw
     · show upd (upd q.dw a _) a _ (o.a + j) = 0
       have:=hw j h2
       rw [Z7 _ _ _ _ this,Z7 _ _ _ _ this];exact L.nt j h1 h2
 · show i ≠ o.i \/ (q.y.ck i).us + room κ <= o.u \/ o.u + room o.κ <= (q.y.ck i).us
   rcases hsep o ho with e | e
   · exact Or.inl (Ne.symm e)
   · exact Or.inr (Or.inr e)
 · show upd q.lv i (q.lv i + room κ) j = (if i = j then room κ else 0) + Yk j ls
   by_cases e : j = i
   · subst e;rw [upd_same,if_pos rfl,C.lv j hj,Nat.add_comm]
   · rw [Z7 _ _ _ _ e,if_neg (Ne.symm e),C.lv j hj,Nat.zero_add]
 · show 0 <= upd (upd q.dw a _) a _ b /\ upd (upd q.dw a _) a _ b <= _
   by_cases e : b = a
   · subst e;rw [upd_same];exact ⟨(UX _ _ _ _ _).1,Int.le_trans (UX _ _ _ _ _).2 (by decide)⟩
   · rw [Z7 _ _ _ _ e,Z7 _ _ _ _ e];exact C.wb b
theorem WY.back (C : WY t n k m q nx gen ls) {x : Nat} {F : List Nat} (hF : q.F = x :: F) : WY t n k m (q.back x F q.y) nx gen ls :=
 ⟨C.al,C.us,C.dw,fun v hv=>C.sw v (by rw [hF];exact hv),C.gb,C.gn,C.ok,fun o ho=>⟨fun hh=>(C.li o ho).nf (by rw [hF];exact hh),(C.li o ho).sw,(C.li o ho).hw,(C.li o ho).nt,(C.li o ho).us⟩,C.pw,C.lv,C.wb⟩
end
section
variable {w0 w w' : World} {L : Loc} {bE t n k m σ nx : Nat} {cg : Int} {s : Mm} {q : Q} {gen : Nat -> Nat} {ls : List Ox} {own : Bool}
end
end
section
def ZA (v : Int) : Nat:=(v / 8 % 1048576).toNat
def ZB (v : Int) : Nat:=(v / 549755813888 % 4194304).toNat
def Ws (u : Int) : Nat:=(u / 4 % 65536).toNat
def VV (u : Int) : Bool:=decide (u / 1125899906842624 % 2 = 1)
def frozenIn (u : Int) (V : Nat) : Bool:=decide (9223372036854775808 <= u) && decide (u / 1099511627776 % 4194304 = (V : Int))
def froze (u : Int) (V : Nat) : Int:=XP (u % 1099511627776) true V
def XR (v : Int) : Int:=Zp 4 (ZA v) (Zz v) (ZB v + 1)
def X7 (cg : Int) (v : Int) : Int:=if cg <= (Zz v : Int) then Zp 3 0 (Zz v) 0 else Zp 0 0 ((Zz v : Int) + 1) 0
def Wd (v : Int) : Prop:=0 <= v /\ v <= 18446744073709551615
theorem VE (v : Int) (h : Wd v) : Y6 v (v % 8) (ZA v) (Zz v) (ZB v) :=
 ⟨h.1,h.2,rfl,by unfold ZA;omega,by unfold Zz;omega,by unfold ZB;omega⟩
theorem OJ (v : Int) : ZA v <= 1048575:=by unfold ZA;omega
theorem CZ (u : Int) (h : Wd u) : SH u (u % 4) (Ws u) (u / 262144 % 65536) (u / 17179869184 % 65536) (VV u) :=
 ⟨h.1,h.2,rfl,by unfold Ws;omega,rfl,rfl,rfl⟩
theorem MS (a : Int) (f : Bool) (d : Int) : Wd (XP a f d):=Cf a f d
theorem WC (a b c d : Int) : Wd (Zp a b c d):=⟨(Q5 a b c d).1,Int.le_trans (Q5 a b c d).2 (by decide)⟩
theorem Gj (a b c d : Int) (o : Bool) : Wd (Zg a b c d o):=⟨(UX a b c d o).1,Int.le_trans (UX a b c d o).2 (by decide)⟩
theorem QJ (u : Int) (V : Nat) : Wd (froze u V):=MS _ _ _
theorem QG (cg v : Int) : Wd (X7 cg v):=by unfold X7;split <;> exact WC _ _ _ _
inductive Hp where
 | go (v : Int) (Z j : Nat) (u : Option Int)
 | over (Yn : Bool)
def Hp.Zy : Hp -> Bool
 | .over _=>true
 | _=>false
def RX (cg : Int) (x : Nat) (q : Q) (v : Int) : Q × Hp :=
 if q.sw x = v then ({ q with sw:=upd q.sw x (X7 cg v) },.over true) else (q,.over false)
def XQ (cg : Int) (x : Nat) (q : Q) : Hp -> Q × Hp
 | .go v Z j none=>if Z <= j then RX cg x q v else if frozenIn (q.dw (ZA v + 1 + j)) (ZB v) then (q,.go v Z (j + 1) none) else (q,.go v Z j (some (q.dw (ZA v + 1 + j))))
 | .go v Z j (some u)=>if Z <= j then RX cg x q v else if q.dw (ZA v + 1 + j) = u then ({ q with dw:=upd q.dw (ZA v + 1 + j) (froze u (ZB v)) },.go v Z (j + 1) none) else (q,.go v Z j none)
 | .over w=>(q,.over w)
def Hp.cells (x : Nat) : Hp -> List Value -> Prop
 | .go v Z j none,l=>∃ se,l = X5 x v Z j se false false false
 | .go v Z j (some u),l=>l = X5 x v Z j u true false false
 | .over w,l=>∃ v Z j se ld,l = X5 x v Z j se ld true w
theorem Hp.Zq {x : Nat} {η : Hp} {l : List Value} (h : η.cells x l) : l.length = 8:=by
 cases η with
 | go v Z j u =>
  cases u with
  | none=>obtain ⟨_,rfl⟩:=h;rfl
  | some u=>have h' : l = _:=h;subst h';rfl
 | over w=>obtain ⟨_,_,_,_,_,rfl⟩:=h;rfl
theorem Hp.Xp {x : Nat} {η : Hp} {l : List Value} (h : η.cells x l) : l[6]? = some (.bool η.Zy):=by
 cases η with
 | go v Z j u =>
  cases u with
  | none=>obtain ⟨_,rfl⟩:=h;rfl
  | some u=>have h' : l = _:=h;subst h';rfl
 | over w=>obtain ⟨_,_,_,_,_,rfl⟩:=h;rfl
structure Vr (t n k m : Nat) (v : Int) (Z i : Nat) : Prop where
 wd : Wd v
 life : XH (v % 8) = true
 z1 : 1 <= Z
 z2 : Z <= 16
 ik : i < k
 ad : ∃ u,u + Z < m /\ ZA v = base t n k m i + u
theorem Vr.c1 {t n k m : Nat} {v : Int} {Z i : Nat} (h : Vr t n k m v Z i) : Y9 t n k m (ZA v) = i:=by
 obtain ⟨u,hu,e⟩:=h.ad
 rw [e];exact VF (u:=u) h.ik (by have:=h.z1;omega)
theorem Vr.c2 {t n k m : Nat} {v : Int} {Z i : Nat} (h : Vr t n k m v Z i) : Y9 t n k m ((ZA v : Int) + (Z : Int)) = i:=by
 obtain ⟨u,hu,e⟩:=h.ad
 have : (ZA v : Int) + (Z : Int) = ((base t n k m i + (u + Z) : Nat) : Int):=by rw [e];omega
 rw [this];exact VF h.ik hu
theorem Vr.oG {t n k m : Nat} {v : Int} {Z i : Nat} (h : Vr t n k m v Z i) : 6 + t + n * 2 + k * 3 <= ZA v /\ ZA v + Z < 6 + t + n * 2 + k * 3 + k * m:=by
 obtain ⟨u,hu,e⟩:=h.ad
 have:=TZ (t:=t) (n:=n) (m:=m) (u:=u) (r:=Z + 1) h.ik (by omega)
 rw [e];omega
def Hp.good (t n k m : Nat) : Hp -> Prop
 | .go v Z _ u=>(∃ i,Vr t n k m v Z i) /\ ∀ u',u = some u' -> Wd u'
 | .over _=>True
def Hp.at (t x : Nat) : Hp -> Nat
 | .go v Z j _=>if Z <= j then 6 + t + x * 2 else ZA v + 1 + j
 | .over _=>0
section
variable {w : World} {L : Loc} {s : Mm} {b o : Nat} {T : TypeId} {cs : Array Value} {t n k m σ : Nat} {g p r : Int} {q : Q}
theorem UW {s : Mm} {who : Int} {a : Nat} {old v : Int} (h : s.wd a = old) : (s.by who).Xj a old v = (s.by who).step a v:=by
 show (if s.wd a = old then _ else _) = _
 rw [if_pos h]
theorem Wy {s : Mm} {who : Int} {a : Nat} {old v : Int} (h : s.wd a ≠ old) : (s.by who).Xj a old v = (s.by who).step a (s.wd a):=by
 show (if s.wd a = old then _ else _) = _
 rw [if_neg h];rfl
set_option maxHeartbeats 400000 in
theorem UU (h : Z9 w L s) (hb : ¬ L.has b) (hT : Zm t n k m s σ q) (hG : Good t n k m g p r) (hσ : σ < 1000000) (hdw : ∀ a,Wd (q.dw a)) {x : Nat} (hx : x < n) (η : Hp) {l : List Value} (hi : At w b o T cs l) (hc : η.cells x l) (hg : η.good t n k m) (ho : η.Zy = false) (who : Int) (q' : Q) (η' : Hp) (hq : XQ g x q η = (q',η')) (d : Bool) (hd : η'.Zy = d) :
 Calls Tryz.prog 90 #[pP b o,eV t n k m g p r L.p who] w fun e w'=>e = .returned (.bool d) /\ VU L b o T cs w w' (fun s' l'=>Zm t n k m s' (σ + 1) q' /\ η'.cells x l' /\ ∃ v,s' = (s.by who).step (η.at t x) v):=by
 have hlen : ZR t n k m <= s.n:=by rw [hT.len];exact Nat.le_refl _
 have hlen':=hT.len
 have hxs : 6 + t + x * 2 < s.n:=by omega
 cases η with
 | over=>cases ho
 | go v Z j u =>
  obtain ⟨⟨i,O⟩,hu⟩:=hg
  have sl:=VE v O.wd
  have ab:=OJ v
  have z1:=O.z1
  have z2:=O.z2
  have hin:=O.oG
  have gb:=Vl v
  have g1:=hG.g1
  by_cases hj : Z <= j
  · have hq1 : RX g x q v = (q',η'):=by
     cases u <;> simpa [XQ,hj] using hq
    have hat : Hp.at t x (.go v Z j u) = 6 + t + x * 2:=by simp [Hp.at,hj]
    rw [hat]
    obtain ⟨se,ld,rfl⟩ : ∃ se ld,l = X5 x v Z j se ld false false:=by
     cases u with
     | none=>obtain ⟨se,rfl⟩:=hc;exact ⟨se,false,rfl⟩
     | some u=>exact ⟨u,true,hc⟩
    have key : ∀ (nw : Int),X7 g v = nw -> (∀ w1 : World,Z9 w1 L s -> At w1 b o T cs (X5 x v Z j se ld false false) -> Calls Tryz.prog 135 #[pP b o,eV t n k m g p r L.p who,.agg #[iV (v % 8),iV (ZA v),iV (Zz v),iV (ZB v)]] w1 fun e w'=>e = .returned (.tuple #[]) /\ VU L b o T cs w1 w' (fun s' l'=>s' = (s.by who).Xj (6 + t + x * 2) v nw /\ l' = X5 x v Z j se ld true (decide (s.wd (6 + t + x * 2) = v)))) ->
     Calls Tryz.prog 90 #[pP b o,eV t n k m g p r L.p who] w fun e w'=>e = .returned (.bool d) /\ VU L b o T cs w w' (fun s' l'=>Zm t n k m s' (σ + 1) q' /\ η'.cells x l' /\ ∃ v,s' = (s.by who).step (6 + t + x * 2) v):=by
     intro nw hnw hcall
     refine Gn h hi who hG hlen hx sl O.life ab (by omega) (by omega) (i:=(i : Int)) (by omega) O.c1 O.c2 (by omega) _ d (fun s' l' P=>by rw [<- hd];exact Hp.Xp P.2.1) fun w1 m1 i1=>(hcall w1 m1 i1).mono ?_
     rintro e w' ⟨rfl,s',cs',l',m',o',i',q9,rfl,rfl⟩
     refine ⟨rfl,_,cs',_,m',o',i',q9,?_⟩
     by_cases hw : q.sw x = v
     · have hw' : s.wd (6 + t + x * 2) = v:=by rw [hT.Qj x hx];exact hw
       simp only [RX,hw,if_true] at hq1
       obtain ⟨rfl,rfl⟩:=Prod.mk.inj hq1
       rw [UW hw',decide_eq_true hw',<- hnw]
       exact ⟨hT.shows hσ who hx _ (QG g v).1 (QG g v).2,⟨_,_,_,_,_,rfl⟩,_,rfl⟩
     · have hw' : s.wd (6 + t + x * 2) ≠ v:=by rw [hT.Qj x hx];exact hw
       simp only [RX,hw,if_false] at hq1
       obtain ⟨rfl,rfl⟩:=Prod.mk.inj hq1
       rw [Wy hw',decide_eq_false hw']
       exact ⟨hT.same hσ who _,⟨_,_,_,_,_,rfl⟩,_,rfl⟩
    by_cases hl : g <= (Zz v : Int)
    · exact key _ (by unfold X7;rw [if_pos hl]) fun w1 m1 i1=>Gp m1 hb i1 who _ _ _ _ hG (by omega) (by omega) hl hx rfl hxs
    · exact key _ (by unfold X7;rw [if_neg hl]) fun w1 m1 i1=>Gq m1 hb i1 who _ _ _ _ hG (by omega) (by omega) (by omega) hx rfl hxs
  · have hat : Hp.at t x (.go v Z j u) = ZA v + 1 + j:=by simp [Hp.at,hj]
    rw [hat]
    have hn : ZA v + 1 + j < s.n:=by omega
    have hwd : s.wd (ZA v + 1 + j) = q.dw (ZA v + 1 + j):=hT.LH _ (by omega)
    cases u with
    | none =>
     obtain ⟨se,rfl⟩:=hc
     simp only [XQ,hj,if_false] at hq
     have cell : CellIs (q.dw (ZA v + 1 + j)) _ _ _:=⟨(hdw _).1,(hdw _).2,rfl,rfl,rfl⟩
     by_cases hf : frozenIn (q.dw (ZA v + 1 + j)) (ZB v) = true
     · rw [if_pos hf] at hq
       obtain ⟨rfl,rfl⟩:=Prod.mk.inj hq
       have hf':=hf
       unfold frozenIn at hf'
       rw [Bool.and_eq_true] at hf'
       obtain ⟨f1,f2⟩:=hf'
       refine Ur h hi who hG hlen hx sl O.life ab (by omega) (by omega) (i:=(i : Int)) (by omega) O.c1 O.c2 (by omega) _ d (fun s' l' P=>by rw [<- hd];exact Hp.Xp P.2.1) fun w1 m1 i1=>(J8 m1 hb i1 who _ _ _ _ ab (by omega) hwd cell f1 (by rw [if_pos (of_decide_eq_true f1)];exact of_decide_eq_true f2) hn).mono ?_
       rintro e w' ⟨rfl,s',cs',l',m',o',i',q9,rfl,rfl⟩
       exact ⟨rfl,_,cs',_,m',o',i',q9,hT.same hσ who _,⟨_,rfl⟩,_,rfl⟩
     · rw [if_neg hf] at hq
       obtain ⟨rfl,rfl⟩:=Prod.mk.inj hq
       unfold frozenIn at hf
       rw [Bool.and_eq_true] at hf
       by_cases f1 : decide (9223372036854775808 <= q.dw (ZA v + 1 + j)) = true
       · refine Ur h hi who hG hlen hx sl O.life ab (by omega) (by omega) (i:=(i : Int)) (by omega) O.c1 O.c2 (by omega) _ d (fun s' l' P=>by rw [<- hd];exact Hp.Xp P.2.1) fun w1 m1 i1=>(J6 m1 hb i1 who _ _ _ _ ab (by omega) hwd cell f1 (by rw [if_pos (of_decide_eq_true f1)];exact fun e=>hf ⟨f1,decide_eq_true e⟩) hn).mono ?_
         rintro e w' ⟨rfl,s',cs',l',m',o',i',q9,rfl,rfl⟩
         exact ⟨rfl,_,cs',_,m',o',i',q9,hT.same hσ who _,rfl,_,rfl⟩
       · refine Ur h hi who hG hlen hx sl O.life ab (by omega) (by omega) (i:=(i : Int)) (by omega) O.c1 O.c2 (by omega) _ d (fun s' l' P=>by rw [<- hd];exact Hp.Xp P.2.1) fun w1 m1 i1=>(J7 m1 hb i1 who _ _ _ _ ab (by omega) hwd cell (by simpa using f1) hn).mono ?_
         rintro e w' ⟨rfl,s',cs',l',m',o',i',q9,rfl,rfl⟩
         exact ⟨rfl,_,cs',_,m',o',i',q9,hT.same hσ who _,rfl,_,rfl⟩
    | some u =>
     have hc' : l = _:=hc
     subst hc'
     simp only [XQ,hj,if_false] at hq
     have hub:=hu u rfl
     have cell : CellIs u _ _ _:=⟨hub.1,hub.2,rfl,rfl,rfl⟩
     have fv : Fit (ZB v : Int):=⟨by omega,by unfold ZB;omega⟩
     by_cases hw : q.dw (ZA v + 1 + j) = u
     · rw [if_pos hw] at hq
       obtain ⟨rfl,rfl⟩:=Prod.mk.inj hq
       have hw' : s.wd (ZA v + 1 + j) = u:=hwd.trans hw
       refine TM h hi who hG hlen hx sl O.life ab (by omega) (by omega) (i:=(i : Int)) (by omega) O.c1 O.c2 (by omega) _ d (fun s' l' P=>by rw [<- hd];exact Hp.Xp P.2.1) fun w1 m1 i1=>(Na m1 hb i1 who _ _ _ _ ab (by omega) cell fv (decide_eq_true hw') hn).mono ?_
       rintro e w' ⟨rfl,s',cs',l',m',o',i',q9,rfl,rfl⟩
       rw [UW hw'] at m'
       exact ⟨rfl,_,cs',_,m',o',i',q9,hT.lays hσ who (by omega) _,⟨_,rfl⟩,_,rfl⟩
     · rw [if_neg hw] at hq
       obtain ⟨rfl,rfl⟩:=Prod.mk.inj hq
       have hw' : s.wd (ZA v + 1 + j) ≠ u:=by rw [hwd];exact hw
       refine TM h hi who hG hlen hx sl O.life ab (by omega) (by omega) (i:=(i : Int)) (by omega) O.c1 O.c2 (by omega) _ d (fun s' l' P=>by rw [<- hd];exact Hp.Xp P.2.1) fun w1 m1 i1=>(J4 m1 hb i1 who _ _ _ _ ab (by omega) cell fv (decide_eq_false hw') hn).mono ?_
       rintro e w' ⟨rfl,s',cs',l',m',o',i',q9,rfl,rfl⟩
       rw [Wy hw'] at m'
       exact ⟨rfl,_,cs',_,m',o',i',q9,hT.same hσ who _,⟨_,rfl⟩,_,rfl⟩
end
inductive Dp where
 | see
 | ask (v : Int)
 | mark (v : Int) (Z : Nat)
 | QV (η : Hp)
 | fin (Z i : Nat) (η : Hp)
 | count (Z i : Nat)
 | give (γ : Gv)
 | over (E : Int)
def Dp.Zy : Dp -> Bool
 | .over _=>true
 | _=>false
def Dp.nx : Dp -> Int
 | .see=>0
 | .ask _=>1
 | .mark _ _=>2
 | .QV _=>3
 | .fin _ _ _=>4
 | .count _ _=>5
 | .give _=>6
 | .over _=>7
theorem Dp.Ua (α : Dp) : (α.nx == 7) = α.Zy:=by cases α <;> rfl
def J3 : Q × Hp -> Q × Dp
 | (q',.over _)=>(q',.see)
 | (q',η')=>(q',.QV η')
def Nh (Z i : Nat) : Q × Hp -> Q × Dp
 | (q',.over _)=>(q',.count Z i)
 | (q',η')=>(q',.fin Z i η')
def Oi (q : Q) : Nat × (Nat -> Nat) × List Nat × Gv -> Q × Dp
 | (c',lk',F',.over)=>({ q with c:=c',lk:=lk',F:=F' },.over 0)
 | (c',lk',F',γ')=>({ q with c:=c',lk:=lk',F:=F' },.give γ')
def Nb (own : Bool) (v u : Int) : Dp :=
 if VV u == own then (if v % 8 = 4 then .QV (.go v (Ws u) 0 none) else .mark v (Ws u)) else .over 3
def YP (t n k m : Nat) (cg : Int) (own : Bool) (x G : Nat) (q : Q) : Dp -> Q × Dp
 | .see=>(q,if XH (q.sw x % 8) && decide (Zz (q.sw x) = G) then .ask (q.sw x) else .over 3)
 | .ask v=>(q,Nb own v (q.dw (ZA v)))
 | .mark v Z=>if q.sw x = v then ({ q with sw:=upd q.sw x (XR v) },.fin Z (Y9 t n k m (ZA v)).toNat (.go (XR v) Z 0 none)) else (q,.see)
 | .QV η=>J3 (XQ cg x q η)
 | .fin Z i η=>Nh Z i (XQ cg x q η)
 | .count Z i=>({ q with lv:=upd q.lv i (q.lv i - room (ZM Z).toNat) },if cg <= G then .over 0 else .give .idle)
 | .give γ=>Oi q (X9 q.c q.lk q.F x γ)
 | .over E=>(q,.over E)
def Ce (t n k m : Nat) (q : Q) (v : Int) : Prop:=∃ i,Vr t n k m v (Ws (q.dw (ZA v))) i
def Dp.good (t n k m x G : Nat) (q : Q) : Dp -> Prop
 | .see=>XH (q.sw x % 8) = true -> Zz (q.sw x) = G -> Ce t n k m q (q.sw x)
 | .ask v=>Ce t n k m q v
 | .mark v Z=>∃ i,Vr t n k m v Z i
 | .QV η=>η.good t n k m /\ η.Zy = false
 | .fin _ _ η=>η.good t n k m /\ η.Zy = false
 | .count Z i=>1 <= Z /\ Z <= 16 /\ i < k /\ room (ZM Z).toNat <= q.lv i
 | .give γ=>x ∉ q.F /\ γ.good n q.c q.lk q.F x /\ γ.done = false
 | .over _=>True
def Dp.at (t n x : Nat) : Dp -> Nat
 | .see=>6 + t + x * 2
 | .ask v=>ZA v
 | .mark _ _=>6 + t + x * 2
 | .QV η=>η.at t x
 | .fin _ _ η=>η.at t x
 | .count _ i=>6 + t + n * 2 + i * 3 + 1
 | .give γ=>γ.at t x
 | .over _=>0
def Dp.sec (t n k m : Nat) : Dp -> Int -> Int -> Int -> Prop
 | .ask v,se,ch,_=>se = v /\ ch = Y9 t n k m (ZA v)
 | .mark v Z,se,ch,sz=>se = v /\ ch = Y9 t n k m (ZA v) /\ sz = Z
 | .fin Z i _,_,ch,sz=>ch = i /\ sz = Z
 | .count Z i,_,ch,sz=>ch = i /\ sz = Z
 | _,_,_,_=>True
def Dp.hlc (x : Nat) : Dp -> List Value -> Prop
 | .QV η,l=>η.cells x l
 | .fin _ _ η,l=>η.cells x l
 | _,_=>True
def Dp.lY (x : Nat) : Dp -> List Value -> Prop
 | .give γ,l=>γ.cells x l
 | _,_=>True
def Dp.err : Dp -> Int
 | .over E=>E
 | _=>0
structure DF (t n k m : Nat) (nu : Int) (own : Bool) (x : Nat) (α : Dp) (a : DV) : Prop where
 nx : a.nx = α.nx
 nu : a.nu = nu
 ow : a.own = own
 sec : α.sec t n k m a.se a.ch a.sz
 hl : α.hlc x a.hl
 gl : α.lY x a.gl
 E : a.E = α.err
 H : a.H = 0
 V : a.V = 0
theorem wI (t n k m : Nat) (nu : Int) (own : Bool) (x : Nat) : DF t n k m nu own x .see (oH nu own):=⟨rfl,rfl,rfl,trivial,trivial,trivial,rfl,rfl,rfl⟩
theorem Zm.MR {t n k m : Nat} {s : Mm} {σ : Nat} {q : Q} (h : Zm t n k m s σ q) (hσ : σ < 1000000) (who : Int) {i r : Nat} (hi : i < k) (hr : r <= 17) (hl : r <= q.lv i) :
 Zm t n k m ((s.by who).step (6 + t + n * 2 + i * 3 + 1) (sum64 (s.wd (6 + t + n * 2 + i * 3 + 1)) (Ym (-(r : Int))))) (σ + 1) { q with lv:=upd q.lv i (q.lv i - r) }:=by
 have hb:=h.LJ i hi
 have hv : sum64 (s.wd (6 + t + n * 2 + i * 3 + 1)) (Ym (-(r : Int))) = Ub (q.lv i - r) (q.db i):=by
  rw [h.KW i hi];exact zO _ _ _ hl
 refine ⟨h.pile.off hσ who _ _ (by omega) (fun x hx=>by omega),h.YN.off hσ who _ _ (by omega) (fun j hj=>by omega),fun j hj=>?_,fun j hj=>?_,fun x hx=>?_,h.KU,fun b hb=>?_,?_⟩
 · by_cases e : j = i
   · subst e
     rw [Zm.WZ,hv]
     show _ = Ub (upd q.lv j (q.lv j - r) j) (q.db j)
     rw [upd_same]
   · rw [Zm.ZC who _ _ _ (by omega)]
     show _ = Ub (upd q.lv i (q.lv i - r) j) (q.db j)
     rw [Z7 _ _ _ _ e];exact h.KW j hj
 · show upd q.lv i (q.lv i - r) j <= 17 * (σ + 1)
   by_cases e : j = i
   · subst e;rw [upd_same];omega
   · rw [Z7 _ _ _ _ e];have:=h.LJ j hj;omega
 · rw [Zm.ZC who _ _ _ (by omega)];exact h.Qj x hx
 · rw [Zm.ZC who _ _ _ (by omega)];exact h.LH b hb
 · rw [Zm.ZC who _ _ _ (by omega)];exact h.ep
def Dp.reads : Dp -> Bool
 | .see=>true
 | .ask _=>true
 | _=>false
structure pX (w : World) (L : Loc) (s : Mm) (b o : Nat) (T : TypeId) (cs : Array Value) (t n k m σ : Nat) (nu : Int) (own : Bool) (x : Nat) (who : Int) (α : Dp) (q' : Q) (α' : Dp) (w' : World) (s' : Mm) (cs' : Array Value) (a' : DV) : Prop where
 mm : Z9 w' L s'
 tw : Zm t n k m s' (σ + 1) q'
 dp : ZH w' b o T cs' a'
 is : DF t n k m nu own x α' a'
 same : Same o 21 cs cs'
 only : Only (L.and b) w w'
 st : ∃ v,s' = (s.by who).step (α.at t n x) v
 rd : α.reads = true -> s' = (s.by who).step (α.at t n x) (s.wd (α.at t n x))
theorem Gi {q' : Q} {η' : Hp} (h : η'.Zy = false) : J3 (q',η') = (q',.QV η'):=by
 cases η' with
 | over=>cases h
 | go=>rfl
theorem Cc {Z i : Nat} {q' : Q} {η' : Hp} (h : η'.Zy = false) : Nh Z i (q',η') = (q',.fin Z i η'):=by
 cases η' with
 | over=>cases h
 | go=>rfl
theorem Gh {q : Q} {c' : Nat} {lk' : Nat -> Nat} {F' : List Nat} {γ' : Gv} (h : γ'.done = false) : Oi q (c',lk',F',γ') = ({ q with c:=c',lk:=lk',F:=F' },.give γ'):=by
 cases γ' with
 | over=>cases h
 | _=>rfl
theorem Hp.TY {η : Hp} (h : η.Zy = true) : ∃ w,η = .over w:=by
 cases η with
 | over w=>exact ⟨w,rfl⟩
 | go=>cases h
theorem QZ {Z : Nat} (z1 : 1 <= Z) (z2 : Z <= 16) : ZM Z = ((ZM Z).toNat : Nat) /\ (ZM Z).toNat < 4:=by
 unfold ZM
 rw [if_neg (by omega)]
 repeat' split
 all_goals omega
section
variable {w : World} {L : Loc} {s : Mm} {b o : Nat} {T : TypeId} {cs : Array Value} {a : DV} {t n k m σ : Nat} {g p r : Int} {q : Q} {nu : Int} {own : Bool}
set_option maxHeartbeats 1000000 in
theorem drop_step (h : Z9 w L s) (hb : ¬ L.has b) (hT : Zm t n k m s σ q) (hG : Good t n k m g p r) (hσ : σ < 1000000) (hdw : ∀ a,Wd (q.dw a)) {x G : Nat} (hh : XM nu x G) (hx : x < n) (α : Dp) (hi : ZH w b o T cs a) (his : DF t n k m nu own x α a) (hg : α.good t n k m x G q) (ho : α.Zy = false) (who : Int) (q' : Q) (α' : Dp) (hq : YP t n k m g own x G q α = (q',α')) (d : Bool) (hd : α'.Zy = d) :
 Calls Tryz.prog 50 #[pP b o,eV t n k m g p r L.p who] w fun e w'=>e = .returned (.bool d) /\ ∃ s' cs' a',pX w L s b o T cs t n k m σ nu own x who α q' α' w' s' cs' a':=by
 have hlen : ZR t n k m <= s.n:=by rw [hT.len];exact Nat.le_refl _
 have hlen':=hT.len
 have hmk : k * m <= 64 * 256:=Nat.mul_le_mul hG.k1 hG.n1
 have hxs : 6 + t + x * 2 < s.n:=by omega
 have hst : wrap64 (s.steps + 1) = ((σ + 1 : Nat) : Int):=by rw [hT.pile.st];exact hT.pile.Vw hσ
 have hh':=hh
 obtain ⟨XO,Lt,Xy,Vp,ihl,oD,iE,iH,iV⟩:=his
 rw [<- Lt] at hh
 have hdn:=Dp.Ua α'
 rw [hd] at hdn
 cases α with
 | over=>cases ho
 | see =>
  obtain ⟨v,hv⟩ : ∃ v,q.sw x = v:=⟨_,rfl⟩
  have hwv : s.wd (6 + t + x * 2) = v:=by rw [hT.Qj x hx];exact hv
  have wv : Wd v:=by rw [<- hv];exact hT.KU x hx
  have sl:=VE v wv
  simp only [YP,hv] at hq
  simp only [Dp.good,hv] at hg
  by_cases hl : (XH (v % 8) && decide (Zz v = G)) = true
  · rw [if_pos hl] at hq
    obtain ⟨rfl,rfl⟩:=Prod.mk.inj hq
    rw [Bool.and_eq_true] at hl
    obtain ⟨i,O⟩:=hg hl.1 (of_decide_eq_true hl.2)
    have hl' : (XH (v % 8) && ((Zz v : Int) == (G : Int))) = true:=by
     rw [hl.1,of_decide_eq_true hl.2];simp
    refine (Pv h hi who hG hlen hh hx XO _ d ?_ (fun w1 m1 i1=>CQ m1 hb i1 who hG hx hxs hwv sl (ci:=Y9 t n k m (ZA v)) rfl hl' (by rw [O.c1];omega))).mono ?_
    · rintro s' a' ⟨_,rfl⟩
      rw [<- hdn];rfl
    · rintro e w' ⟨rfl,s',cs',a',m',o',i',sm,rfl,rfl⟩
      exact ⟨rfl,_,cs',_,m',hT.same hσ who _,i',⟨rfl,Lt,Xy,⟨rfl,rfl⟩,trivial,trivial,iE,iH,iV⟩,sm,o',⟨_,rfl⟩,fun _=>rfl⟩
  · rw [if_neg hl] at hq
    obtain ⟨rfl,rfl⟩:=Prod.mk.inj hq
    have hl' : (XH (v % 8) && ((Zz v : Int) == (G : Int))) = false:=by
     rw [Bool.not_eq_true] at hl
     rw [<- hl]
     congr 1
     rw [Bool.eq_iff_iff]
     simp only [beq_iff_eq,decide_eq_true_eq]
     omega
    refine (Pv h hi who hG hlen hh hx XO _ d ?_ (fun w1 m1 i1=>yS m1 hb i1 who hG hx hxs hwv sl (ci:=Y9 t n k m (ZA v)) rfl hl' (by rw [XO];decide) hst)).mono ?_
    · rintro s' a' ⟨_,rfl⟩
      rw [<- hdn];rfl
    · rintro e w' ⟨rfl,s',cs',a',m',o',i',sm,rfl,rfl⟩
      exact ⟨rfl,_,cs',_,m',hT.same hσ who _,i',⟨rfl,Lt,Xy,trivial,trivial,trivial,rfl,rfl,rfl⟩,sm,o',⟨_,rfl⟩,fun _=>rfl⟩
 | ask v =>
  obtain ⟨i,O⟩:=hg
  obtain ⟨rfl,uX⟩:=Vp
  have sl:=VE a.se O.wd
  have hin:=O.oG
  have Cb : s.wd (ZA a.se) = q.dw (ZA a.se):=hT.LH _ hin.1
  have hd1:=CZ _ (hdw (ZA a.se))
  have hq' : (q,Nb own a.se (q.dw (ZA a.se))) = (q',α'):=hq
  obtain ⟨rfl,hα⟩:=Prod.mk.inj hq'
  have hnA : ZA a.se < s.n:=by omega
  by_cases hw : (VV (q.dw (ZA a.se)) == own) = true
  · have hwo : (VV (q.dw (ZA a.se)) == a.own) = true:=by rw [Xy];exact hw
    simp only [Nb,hw,if_true] at hα
    by_cases h4 : a.se % 8 = 4
    · rw [if_pos h4] at hα
      subst hα
      refine (SG h hi who hG hlen hh hx XO _ d ?_ (fun w1 m1 i1=>Gx m1 hb i1 who sl hnA Cb hd1 hwo h4)).mono ?_
      · rintro s' a' ⟨_,rfl⟩
        rw [<- hdn];rfl
      · rintro e w' ⟨rfl,s',cs',a',m',o',i',sm,rfl,rfl⟩
        exact ⟨rfl,_,cs',_,m',hT.same hσ who _,i',⟨rfl,Lt,Xy,trivial,⟨0,rfl⟩,trivial,iE,iH,iV⟩,sm,o',⟨_,rfl⟩,fun _=>rfl⟩
    · rw [if_neg h4] at hα
      subst hα
      refine (SG h hi who hG hlen hh hx XO _ d ?_ (fun w1 m1 i1=>yU m1 hb i1 who sl hnA Cb hd1 hwo h4)).mono ?_
      · rintro s' a' ⟨_,rfl⟩
        rw [<- hdn];rfl
      · rintro e w' ⟨rfl,s',cs',a',m',o',i',sm,rfl,rfl⟩
        exact ⟨rfl,_,cs',_,m',hT.same hσ who _,i',⟨rfl,Lt,Xy,⟨rfl,uX,rfl⟩,trivial,trivial,iE,iH,iV⟩,sm,o',⟨_,rfl⟩,fun _=>rfl⟩
  · have hw' : (VV (q.dw (ZA a.se)) == own) = false:=by simpa using hw
    have hwo : (VV (q.dw (ZA a.se)) == a.own) = false:=by rw [Xy];exact hw'
    simp only [Nb,hw'] at hα
    subst hα
    refine (SG h hi who hG hlen hh hx XO _ d ?_ (fun w1 m1 i1=>yV m1 hb i1 who sl hnA Cb hd1 (by rw [XO];show (1 : Int) < 5;decide) hwo hst)).mono ?_
    · rintro s' a' ⟨_,rfl⟩
      rw [<- hdn];rfl
    · rintro e w' ⟨rfl,s',cs',a',m',o',i',sm,rfl,rfl⟩
      exact ⟨rfl,_,cs',_,m',hT.same hσ who _,i',⟨rfl,Lt,Xy,trivial,trivial,trivial,rfl,rfl,rfl⟩,sm,o',⟨_,rfl⟩,fun _=>rfl⟩
 | mark v Z =>
  obtain ⟨i,O⟩:=hg
  obtain ⟨rfl,uX,Xd⟩:=Vp
  have sl:=VE a.se O.wd
  by_cases hw : q.sw x = a.se
  · have hw' : s.wd (6 + t + x * 2) = a.se:=by rw [hT.Qj x hx];exact hw
    simp only [YP,hw,if_true] at hq
    obtain ⟨rfl,rfl⟩:=Prod.mk.inj hq
    refine (QI h hi who hG hlen hh hx XO _ d ?_ (fun w1 m1 i1=>Gm m1 hb i1 who hG hx hxs Xd sl (decide_eq_true hw'))).mono ?_
    · rintro s' a' ⟨_,rfl⟩
      rw [<- hdn];rfl
    · rintro e w' ⟨rfl,s',cs',a',m',o',i',sm,rfl,rfl⟩
      rw [UW hw'] at m'
      refine ⟨rfl,_,cs',_,m',hT.shows hσ who hx _ (WC _ _ _ _).1 (WC _ _ _ _).2,i',⟨rfl,Lt,Xy,⟨?_,Xd⟩,⟨0,rfl⟩,trivial,iE,iH,iV⟩,sm,o',⟨_,rfl⟩,fun h=>by cases h⟩
      show a.ch = _
      rw [uX,O.c1];simp
  · have hw' : s.wd (6 + t + x * 2) ≠ a.se:=by rw [hT.Qj x hx];exact hw
    simp only [YP,hw,if_false] at hq
    obtain ⟨rfl,rfl⟩:=Prod.mk.inj hq
    refine (QI h hi who hG hlen hh hx XO _ d ?_ (fun w1 m1 i1=>Cj m1 hb i1 who hG hx hxs sl (decide_eq_false hw'))).mono ?_
    · rintro s' a' ⟨_,rfl⟩
      rw [<- hdn];rfl
    · rintro e w' ⟨rfl,s',cs',a',m',o',i',sm,rfl,rfl⟩
      rw [Wy hw'] at m'
      exact ⟨rfl,_,cs',_,m',hT.same hσ who _,i',⟨rfl,Lt,Xy,trivial,trivial,trivial,iE,iH,iV⟩,sm,o',⟨_,rfl⟩,fun h=>by cases h⟩
 | QV η =>
  obtain ⟨gη,oη⟩:=hg
  obtain ⟨q1,η1,ht⟩ : ∃ q1 η1,XQ g x q η = (q1,η1):=⟨_,_,rfl⟩
  simp only [YP,ht] at hq
  cases hf : η1.Zy with
  | false =>
   rw [Gi hf] at hq
   obtain ⟨rfl,rfl⟩:=Prod.mk.inj hq
   obtain rfl : false = d:=hd
   refine (PV h hi who hG hlen hh hx XO _ (fun s' l' P=>Hp.Zq P.2.1) (fun w1 m1 i1=>UU m1 hb hT hG hσ hdw hx η i1 ihl gη oη who _ _ ht false hf)).mono ?_
   rintro e w' ⟨rfl,s',cs',a',m',o',i',sm,l',⟨t',c',st'⟩,rfl⟩
   exact ⟨rfl,_,cs',_,m',t',i',⟨XO,Lt,Xy,trivial,c',trivial,iE,iH,iV⟩,sm,o',st',fun h=>by cases h⟩
  | true =>
   obtain ⟨wn,rfl⟩:=Hp.TY hf
   have hq' : (q1,Dp.see) = (q',α'):=hq
   obtain ⟨rfl,rfl⟩:=Prod.mk.inj hq'
   obtain rfl : false = d:=hd
   refine (RI h hi who hG hlen hh hb hx XO _ (fun s' l' P=>Hp.Zq P.2.1) (fun w1 m1 i1=>UU m1 hb hT hG hσ hdw hx η i1 ihl gη oη who _ _ ht true hf)).mono ?_
   rintro e w' ⟨rfl,s',cs',a',m',o',i',sm,l',⟨t',c',st'⟩,rfl⟩
   exact ⟨rfl,_,cs',_,m',t',i',⟨rfl,Lt,Xy,trivial,trivial,trivial,iE,iH,iV⟩,sm,o',st',fun h=>by cases h⟩
 | fin Z i η =>
  obtain ⟨gη,oη⟩:=hg
  obtain ⟨q1,η1,ht⟩ : ∃ q1 η1,XQ g x q η = (q1,η1):=⟨_,_,rfl⟩
  simp only [YP,ht] at hq
  cases hf : η1.Zy with
  | false =>
   rw [Cc hf] at hq
   obtain ⟨rfl,rfl⟩:=Prod.mk.inj hq
   refine (Pq h hi who hG hlen hh hx XO _ d ?_ (fun w1 m1 i1=>yR m1 i1 who _ (fun s' l' P=>Hp.Zq P.2.1) (fun w2 m2 i2=>UU m2 hb hT hG hσ hdw hx η i2 ihl gη oη who _ _ ht false hf))).mono ?_
   · rintro s' a' ⟨l',_,rfl⟩
     rw [<- hdn]
     show (a.nx == 7) = _
     rw [XO];rfl
   · rintro e w' ⟨rfl,s',cs',a',m',o',i',sm,l',⟨t',c',st'⟩,rfl⟩
     exact ⟨rfl,_,cs',_,m',t',i',⟨XO,Lt,Xy,Vp,c',trivial,iE,iH,iV⟩,sm,o',st',fun h=>by cases h⟩
  | true =>
   obtain ⟨wn,rfl⟩:=Hp.TY hf
   have hq' : (q1,Dp.count Z i) = (q',α'):=hq
   obtain ⟨rfl,rfl⟩:=Prod.mk.inj hq'
   refine (Pq h hi who hG hlen hh hx XO _ d ?_ (fun w1 m1 i1=>Gl m1 hb i1 who hG hx _ (fun s' l' P=>Hp.Zq P.2.1) (fun s' l' P=>by have:=P.1.len;omega) (fun w2 m2 i2=>UU m2 hb hT hG hσ hdw hx η i2 ihl gη oη who _ _ ht true hf))).mono ?_
   · rintro s' a' ⟨l',_,rfl⟩
     rw [<- hdn];rfl
   · rintro e w' ⟨rfl,s',cs',a',m',o',i',sm,l',⟨t',c',st'⟩,rfl⟩
     exact ⟨rfl,_,cs',_,m',t',i',⟨rfl,Lt,Xy,Vp,trivial,trivial,iE,iH,iV⟩,sm,o',st',fun h=>by cases h⟩
 | count Z i =>
  obtain ⟨z1,z2,hik,hlv⟩:=hg
  obtain ⟨uX,Xd⟩:=Vp
  obtain ⟨kz,hκ⟩:=QZ z1 z2
  have hr:=Zv (ZM Z).toNat
  have hnc : 6 + t + n * 2 + i * 3 + 1 < s.n:=by omega
  have tw:=hT.MR hσ who hik hr.2 hlv
  by_cases hl : g <= (G : Int)
  · have hq' : ({ q with lv:=upd q.lv i (q.lv i - room (ZM Z).toNat) },Dp.over 0) = (q',α'):=by rw [<- hq];simp [YP,hl]
    obtain ⟨rfl,rfl⟩:=Prod.mk.inj hq'
    refine (RY h hi who hG hlen hh hx XO _ d ?_ (fun w1 m1 i1=>MW m1 hb i1 who hG uX hik Xd kz hκ hnc hl)).mono ?_
    · rintro s' a' ⟨_,rfl⟩
      rw [<- hdn];rfl
    · rintro e w' ⟨rfl,s',cs',a',m',o',i',sm,rfl,rfl⟩
      exact ⟨rfl,_,cs',_,m',tw,i',⟨rfl,Lt,Xy,trivial,trivial,trivial,iE,iH,iV⟩,sm,o',⟨_,rfl⟩,fun h=>by cases h⟩
  · have hq' : ({ q with lv:=upd q.lv i (q.lv i - room (ZM Z).toNat) },Dp.give .idle) = (q',α'):=by rw [<- hq];simp [YP,hl]
    obtain ⟨rfl,rfl⟩:=Prod.mk.inj hq'
    refine (RY h hi who hG hlen hh hx XO _ d ?_ (fun w1 m1 i1=>MX m1 hb i1 who hG uX hik Xd kz hκ hnc (by omega))).mono ?_
    · rintro s' a' ⟨_,rfl⟩
      rw [<- hdn];rfl
    · rintro e w' ⟨rfl,s',cs',a',m',o',i',sm,rfl,rfl⟩
      exact ⟨rfl,_,cs',_,m',tw,i',⟨rfl,Lt,Xy,trivial,trivial,⟨0,rfl⟩,iE,iH,iV⟩,sm,o',⟨_,rfl⟩,fun h=>by cases h⟩
 | give γ =>
  obtain ⟨UK,gγ,oγ⟩:=hg
  obtain ⟨c',lk',F',γ',ht⟩ : ∃ c' lk' F' γ',X9 q.c q.lk q.F x γ = (c',lk',F',γ'):=⟨_,_,_,_,rfl⟩
  have hat:=Gv.at_in (t:=t) hx γ
  simp only [YP,ht] at hq
  cases hf : γ'.done with
  | false =>
   rw [Gh hf] at hq
   obtain ⟨rfl,rfl⟩:=Prod.mk.inj hq
   obtain rfl : false = d:=hd
   refine (PU h hi who hG hlen hh hx XO (fun w1 m1 i1=>U3 m1 hb hT.pile hσ hG.t1 hx UK γ ⟨_,i1,oD⟩ gγ oγ _ _ _ _ _ who c' lk' F' γ' ht false hf)).mono ?_
   rintro e w' ⟨rfl,s',cs',a',m',o',i',sm,p',⟨v,rfl⟩,g',l,hl,rfl⟩
   exact ⟨rfl,_,cs',_,m',hT.slots hσ who _ v hat p',i',⟨XO,Lt,Xy,trivial,trivial,hl,iE,iH,iV⟩,sm,o',⟨v,rfl⟩,fun h=>by cases h⟩
  | true =>
   have:=Gv.TY hf
   subst this
   have hq' : ({ q with c:=c',lk:=lk',F:=F' },Dp.over 0) = (q',α'):=hq
   obtain ⟨rfl,rfl⟩:=Prod.mk.inj hq'
   obtain rfl : true = d:=hd
   refine (RH h hi who hG hlen hh hb hx XO (fun w1 m1 i1=>U3 m1 hb hT.pile hσ hG.t1 hx UK γ ⟨_,i1,oD⟩ gγ oγ _ _ _ _ _ who c' lk' F' _ ht true hf)).mono ?_
   rintro e w' ⟨rfl,s',cs',a',m',o',i',sm,p',⟨v,rfl⟩,g',l,hl,rfl⟩
   exact ⟨rfl,_,cs',_,m',hT.slots hσ who _ v hat p',i',⟨rfl,Lt,Xy,trivial,trivial,trivial,iE,iH,iV⟩,sm,o',⟨v,rfl⟩,fun h=>by cases h⟩
end
end
section
theorem Po {cg : Int} {x : Nat} {q : Q} {η : Hp} {q' : Q} {η' : Hp} (h : ∀ a,Wd (q.dw a)) (ht : XQ cg x q η = (q',η')) : ∀ a,Wd (q'.dw a):=by
 have e : ∀ v,RX cg x q v = (q',η') -> ∀ a,Wd (q'.dw a):=by
  intro v hv
  unfold RX at hv
  split at hv <;> (obtain ⟨rfl,-⟩:=Prod.mk.inj hv;exact h)
 cases η with
 | over=>obtain ⟨rfl,-⟩:=Prod.mk.inj ht;exact h
 | go v Z j u =>
  cases u with
  | none =>
   simp only [XQ] at ht
   split at ht
   · exact e v ht
   · split at ht <;> (obtain ⟨rfl,-⟩:=Prod.mk.inj ht;exact h)
  | some u =>
   simp only [XQ] at ht
   split at ht
   · exact e v ht
   · split at ht
     · obtain ⟨rfl,-⟩:=Prod.mk.inj ht
       intro a
       show Wd (upd q.dw _ _ a)
       unfold upd
       split
       · exact QJ _ _
       · exact h a
     · obtain ⟨rfl,-⟩:=Prod.mk.inj ht;exact h
theorem He {t n k m : Nat} {cg : Int} {own : Bool} {x G : Nat} {q : Q} {α : Dp} {q' : Q} {α' : Dp} (h : ∀ a,Wd (q.dw a)) (ht : YP t n k m cg own x G q α = (q',α')) : ∀ a,Wd (q'.dw a):=by
 cases α with
 | see=>obtain ⟨rfl,-⟩:=Prod.mk.inj ht;exact h
 | ask v=>obtain ⟨rfl,-⟩:=Prod.mk.inj ht;exact h
 | mark v Z =>
  simp only [YP] at ht
  split at ht <;> (obtain ⟨rfl,-⟩:=Prod.mk.inj ht;exact h)
 | QV η =>
  obtain ⟨q1,η1,h1⟩ : ∃ q1 η1,XQ cg x q η = (q1,η1):=⟨_,_,rfl⟩
  simp only [YP,h1] at ht
  have:=Po h h1
  cases η1 <;> (simp only [J3] at ht;obtain ⟨rfl,-⟩:=Prod.mk.inj ht;exact this)
 | fin Z i η =>
  obtain ⟨q1,η1,h1⟩ : ∃ q1 η1,XQ cg x q η = (q1,η1):=⟨_,_,rfl⟩
  simp only [YP,h1] at ht
  have:=Po h h1
  cases η1 <;> (simp only [Nh] at ht;obtain ⟨rfl,-⟩:=Prod.mk.inj ht;exact this)
 | count Z i=>obtain ⟨rfl,-⟩:=Prod.mk.inj ht;exact h
 | give γ =>
  obtain ⟨c',lk',F',γ',h1⟩ : ∃ c' lk' F' γ',X9 q.c q.lk q.F x γ = (c',lk',F',γ'):=⟨_,_,_,_,rfl⟩
  simp only [YP,h1] at ht
  cases γ' <;> (simp only [Oi] at ht;obtain ⟨rfl,-⟩:=Prod.mk.inj ht;exact h)
 | over=>obtain ⟨rfl,-⟩:=Prod.mk.inj ht;exact h
inductive Xg (t n k m : Nat) (cg : Int) (own : Bool) (x G : Nat) : Nat -> Q -> Dp -> Q -> Dp -> Prop where
 | one {q : Q} {α : Dp} {q' : Q} {α' : Dp} (ho : α.Zy = false) (hg : α.good t n k m x G q) (ht : YP t n k m cg own x G q α = (q',α')) (h : α'.Zy = true) : Xg t n k m cg own x G 1 q α q' α'
 | more {N : Nat} {q : Q} {α : Dp} {q1 : Q} {α1 : Dp} {q' : Q} {α' : Dp} (ho : α.Zy = false) (hg : α.good t n k m x G q) (ht : YP t n k m cg own x G q α = (q1,α1)) (h : α1.Zy = false) (g : Xg t n k m cg own x G N q1 α1 q' α') : Xg t n k m cg own x G (N + 1) q α q' α'
theorem Xg.pos {t n k m : Nat} {cg : Int} {own : Bool} {x G : Nat} {N : Nat} {q : Q} {α : Dp} {q' : Q} {α' : Dp} (g : Xg t n k m cg own x G N q α q' α') : 1 <= N:=by
 cases g <;> omega
section
variable {w : World} {L : Loc} {t n k m σ : Nat} {s : Mm} {q : Q} {nu : Int} {own : Bool}
end
end
section
theorem Gw (st A G V : Nat) (h1 : st <= 7) (h2 : A <= 1048575) (h3 : G <= 65535) (h4 : V <= 4194303) : Zp st A G V = st + A * 8 + G * 8388608 + V * 549755813888:=by
 unfold Zp
 rw [YI st 3 (by omega) (by simp;omega),YI A 20 (by omega) (by simp;omega),YI G 16 (by omega) (by simp;omega),YI V 22 (by omega) (by simp;omega)]
theorem VX {st A G V : Nat} (h1 : st <= 7) (h2 : A <= 1048575) (h3 : G <= 65535) (h4 : V <= 4194303) : Zp st A G V % 8 = st /\ ZA (Zp st A G V) = A /\ Zz (Zp st A G V) = G /\ ZB (Zp st A G V) = V:=by
 rw [Gw st A G V h1 h2 h3 h4]
 unfold ZA Zz ZB
 refine ⟨?_,?_,?_,?_⟩ <;> omega
theorem QH {v : Int} (hv : ZB v < 4194303) : XR v % 8 = 4 /\ ZA (XR v) = ZA v /\ Zz (XR v) = Zz v /\ ZB (XR v) = ZB v + 1:=by
 have e : XR v = Zp ((4 : Nat) : Int) (ZA v) (Zz v) ((ZB v + 1 : Nat) : Int):=by unfold XR;simp
 rw [e]
 exact VX (by decide) (OJ v) (Vl v) (by omega)
def P5 (dw : Nat -> Int) (a V j : Nat) : Nat -> Int:=fun b=>if a < b /\ b <= a + j then froze (dw b) V else dw b
theorem pY (dw : Nat -> Int) (a V : Nat) : P5 dw a V 0 = dw:=by
 funext b
 unfold P5
 rw [if_neg (by omega)]
theorem CP (dw : Nat -> Int) (a V j : Nat) : upd (P5 dw a V j) (a + 1 + j) (froze (dw (a + 1 + j)) V) = P5 dw a V (j + 1):=by
 funext b
 by_cases e : b = a + 1 + j
 · subst e
   rw [upd_same]
   unfold P5
   rw [if_pos (by omega)]
 · rw [Z7 _ _ _ _ e]
   unfold P5
   by_cases h : a < b /\ b <= a + j
   · rw [if_pos h,if_pos (by omega)]
   · rw [if_neg h,if_neg (by omega)]
theorem CO (dw : Nat -> Int) (a V j : Nat) : P5 dw a V j (a + 1 + j) = dw (a + 1 + j):=by
 unfold P5
 rw [if_neg (by omega)]
theorem Ru (dw : Nat -> Int) (a V j b : Nat) (h : ¬ (a < b /\ b <= a + j)) : P5 dw a V j b = dw b:=by
 unfold P5
 rw [if_neg h]
def Q.fz (q : Q) (a V j : Nat) : Q:={ q with dw:=P5 q.dw a V j }
def Q.end (q : Q) (cg : Int) (x : Nat) (v : Int) (Z i : Nat) : Q :=
 { q with lv:=upd q.lv i (q.lv i - room (ZM Z).toNat),sw:=upd q.sw x (X7 cg v),dw:=P5 q.dw (ZA v) (ZB v + 1) Z }
def Q.gone (q : Q) (cg : Int) (x : Nat) (v : Int) (Z i : Nat) : Q:={ q.end cg x v Z i with c:=q.c + 1,lk:=upd q.lk x (hd q.F),F:=x :: q.F }
section
variable {t n k m : Nat} {cg : Int} {own : Bool} {x G : Nat}
theorem CJ {q : Q} {v : Int} {Z i : Nat} (O : ∃ i,Vr t n k m v Z i) (hdw : ∀ a,Wd (q.dw a)) (hc : ∀ j,j < Z -> frozenIn (q.dw (ZA v + 1 + j)) (ZB v) = false) {M : Nat} {q' : Q} {α' : Dp} (g : Xg t n k m cg own x G M (q.fz (ZA v) (ZB v) Z) (.fin Z i (.go v Z Z none)) q' α') : ∀ d j,j + d = Z -> Xg t n k m cg own x G (2 * d + M) (q.fz (ZA v) (ZB v) j) (.fin Z i (.go v Z j none)) q' α':=by
 intro d
 induction d with
 | zero =>
  intro j hj;obtain rfl : j = Z:=by omega
  rw [Nat.mul_zero,Nat.zero_add];exact g
 | succ d ih =>
  intro j hj
  have hlt : ¬ Z <= j:=by omega
  rw [show 2 * (d + 1) + M = (2 * d + M) + 1 + 1 by omega]
  refine .more (q1:=q.fz (ZA v) (ZB v) j) (α1:=.fin Z i (.go v Z j (some (q.dw (ZA v + 1 + j))))) rfl ⟨⟨O,fun u hu=>by cases hu⟩,rfl⟩ ?_ rfl (.more (q1:=q.fz (ZA v) (ZB v) (j + 1)) (α1:=.fin Z i (.go v Z (j + 1) none)) rfl ⟨⟨O,fun u hu=>by cases hu;exact hdw _⟩,rfl⟩ ?_ rfl (ih (j + 1) (by omega)))
  · have e : (q.fz (ZA v) (ZB v) j).dw (ZA v + 1 + j) = q.dw (ZA v + 1 + j):=CO _ _ _ _
    simp only [YP,XQ,hlt,if_false,e,hc j (by omega)]
    rfl
  · have e : (q.fz (ZA v) (ZB v) j).dw (ZA v + 1 + j) = q.dw (ZA v + 1 + j):=CO _ _ _ _
    simp only [YP,XQ,hlt,if_false,e,if_true]
    have:=CP q.dw (ZA v) (ZB v) j
    simp only [Q.fz,Nh,this]
theorem Vr.mark {v : Int} {Z i : Nat} (O : Vr t n k m v Z i) (hv : ZB v < 4194303) : Vr t n k m (XR v) Z i:=by
 obtain ⟨d1,d2,_,_⟩:=QH hv
 exact ⟨WC _ _ _ _,by rw [d1];rfl,O.z1,O.z2,O.ik,by rw [d2];exact O.ad⟩
theorem Nc {v : Int} (hv : ZB v < 4194303) : X7 cg (XR v) = X7 cg v:=by
 unfold X7
 rw [(QH hv).2.2.1]
theorem Gu {q : Q} {v : Int} {Z i : Nat} (O : Vr t n k m v Z i) (hdw : ∀ a,Wd (q.dw a)) (hv : ZB v < 4194303) (hc : ∀ j,j < Z -> frozenIn (q.dw (ZA v + 1 + j)) (ZB v + 1) = false) (hw : q.sw x = v) {M : Nat} {q' : Q} {α' : Dp} (g : Xg t n k m cg own x G M { q with sw:=upd q.sw x (X7 cg v),dw:=P5 q.dw (ZA v) (ZB v + 1) Z } (.count Z i) q' α') : Xg t n k m cg own x G (2 * Z + (M + 1) + 1) q (.mark v Z) q' α':=by
 obtain ⟨d1,d2,d3,d4⟩:=QH hv
 have O':=O.mark hv
 have ci : (Y9 t n k m (ZA v)).toNat = i:=by rw [O.c1];simp
 refine .more (q1:={ q with sw:=upd q.sw x (XR v) }) (α1:=.fin Z i (.go (XR v) Z 0 none)) rfl ⟨i,O⟩ ?_ rfl ?_
 · simp only [YP,hw,if_true,ci]
 · have f:=CJ (cg:=cg) (own:=own) (x:=x) (G:=G) (i:=i) (q:={ q with sw:=upd q.sw x (XR v) }) (v:=XR v) (Z:=Z) ⟨i,O'⟩ hdw (fun j hj=>by rw [d2,d4];exact hc j hj) (M:=M + 1) (q':=q') (α':=α') ?_ Z 0 (by omega)
   · rwa [show Q.fz { q with sw:=upd q.sw x (XR v) } (ZA (XR v)) (ZB (XR v)) 0 = { q with sw:=upd q.sw x (XR v) } by unfold Q.fz;rw [pY]] at f
   · refine .more (q1:={ q with sw:=upd q.sw x (X7 cg v),dw:=P5 q.dw (ZA v) (ZB v + 1) Z }) (α1:=.count Z i) rfl ⟨⟨⟨i,O'⟩,fun u hu=>by cases hu⟩,rfl⟩ ?_ rfl g
     have e : (Q.fz { q with sw:=upd q.sw x (XR v) } (ZA (XR v)) (ZB (XR v)) Z).sw x = XR v:=upd_same _ _ _
     simp only [YP,XQ,Nat.le_refl,if_true,RX,e,Nh]
     simp only [Q.fz,d2,d4,IE,Nc hv]
theorem Gt {q : Q} (UK : x ∉ q.F) (hh : hd q.F <= n) : Xg t n k m cg own x G 3 q (.give .idle) { q with c:=q.c + 1,lk:=upd q.lk x (hd q.F),F:=x :: q.F } (.over 0):=by
 refine .more (q1:=q) (α1:=.give (.UF (hd q.F) q.c)) rfl ⟨UK,trivial,rfl⟩ rfl rfl (.more (q1:={ q with lk:=upd q.lk x (hd q.F) }) (α1:=.give (.UE (hd q.F) q.c)) rfl ⟨UK,⟨hh,Nat.le_refl _,fun _=>rfl⟩,rfl⟩ rfl rfl (.one rfl ⟨UK,⟨hh,upd_same _ _ _,Nat.le_refl _,fun _=>rfl⟩,rfl⟩ ?_ rfl))
 simp only [YP,X9,if_true,Oi]
theorem J9 {q : Q} {Z i : Nat} (z1 : 1 <= Z) (z2 : Z <= 16) (hik : i < k) (hlv : room (ZM Z).toNat <= q.lv i) (UK : x ∉ q.F) (hh : hd q.F <= n) (hl : (G : Int) < cg) : Xg t n k m cg own x G 4 q (.count Z i) { q with lv:=upd q.lv i (q.lv i - room (ZM Z).toNat),c:=q.c + 1,lk:=upd q.lk x (hd q.F),F:=x :: q.F } (.over 0):=by
 refine .more (q1:={ q with lv:=upd q.lv i (q.lv i - room (ZM Z).toNat) }) (α1:=.give .idle) rfl ⟨z1,z2,hik,hlv⟩ ?_ rfl (Gt (q:={ q with lv:=upd q.lv i (q.lv i - room (ZM Z).toNat) }) UK hh)
 simp only [YP,show ¬ cg <= (G : Int) by omega,if_false]
theorem CG {q : Q} {Z i : Nat} (O : Vr t n k m (q.sw x) Z i) (hz : Ws (q.dw (ZA (q.sw x))) = Z) (ho : VV (q.dw (ZA (q.sw x))) = own) (hG : Zz (q.sw x) = G) (h4 : q.sw x % 8 ≠ 4) {M : Nat} {q' : Q} {α' : Dp} (g : Xg t n k m cg own x G M q (.mark (q.sw x) Z) q' α') : Xg t n k m cg own x G (M + 1 + 1) q .see q' α':=by
 refine .more (q1:=q) (α1:=.ask (q.sw x)) rfl (fun _ _=>⟨i,by rw [hz];exact O⟩) ?_ rfl (.more (q1:=q) (α1:=.mark (q.sw x) Z) rfl ⟨i,by rw [hz];exact O⟩ ?_ rfl g)
 · simp only [YP,O.life,hG,decide_true,Bool.and_self,if_true]
 · simp only [YP,Nb,ho,beq_self_eq_true,if_true,h4,if_false,hz]
theorem G5 {q : Q} {Z i : Nat} (O : Vr t n k m (q.sw x) Z i) (hdw : ∀ a,Wd (q.dw a)) (hz : Ws (q.dw (ZA (q.sw x))) = Z) (ho : VV (q.dw (ZA (q.sw x))) = own) (hG : Zz (q.sw x) = G) (h4 : q.sw x % 8 ≠ 4) (hv : ZB (q.sw x) < 4194303) (hc : ∀ j,j < Z -> frozenIn (q.dw (ZA (q.sw x) + 1 + j)) (ZB (q.sw x) + 1) = false) (hlv : room (ZM Z).toNat <= q.lv i) (UK : x ∉ q.F) (hh : hd q.F <= n) (hl : (G : Int) < cg) : Xg t n k m cg own x G (2 * Z + 8) q .see (q.gone cg x (q.sw x) Z i) (.over 0) :=
 CG O hz ho hG h4 (Gu O hdw hv hc rfl (J9 (q:={ q with sw:=upd q.sw x (X7 cg (q.sw x)),dw:=P5 q.dw (ZA (q.sw x)) (ZB (q.sw x) + 1) Z }) O.z1 O.z2 O.ik hlv UK hh hl))
end
end
section
theorem wH {x G : Nat} (hx : x <= 65535) (g1 : 1 <= G) (g2 : G <= 65535) : XM (YL x G) x G:=by
 rw [Eu x G hx g2]
 refine ⟨?_,?_,?_,?_⟩ <;> omega
theorem VI {Z x G : Nat} {own : Bool} (hZ : Z <= 65535) (hx : x <= 65535) (hG : G <= 65535) : Ws (Zg 2 Z x G own) = Z /\ VV (Zg 2 Z x G own) = own:=by
 have e:=Tq 2 Z x G own (by decide) hZ hx hG
 rw [show ((2 : Nat) : Int) = 2 from rfl] at e
 rw [e]
 unfold Ws VV
 cases own
 · rw [if_neg (by decide)]
   exact ⟨by omega,decide_eq_false (by omega)⟩
 · rw [if_pos rfl]
   exact ⟨by omega,decide_eq_true (by omega)⟩
theorem Ox.Ut {o o' : Ox} (h : o.apart o') : o'.apart o :=
 ⟨fun e=>h.1 e.symm,by rcases h.2 with e | e | e;exact Or.inl (fun k=>e k.symm);exact Or.inr (Or.inr e);exact Or.inr (Or.inl e)⟩
theorem QK (i : Nat) (l1 : List Ox) (o : Ox) (l2 : List Ox) : Yk i (l1 ++ o :: l2) = (if o.i = i then room o.κ else 0) + Yk i (l1 ++ l2):=by
 induction l1 with
 | nil=>rfl
 | cons a l ih =>
  show (if a.i = i then room a.κ else 0) + Yk i (l ++ o :: l2) = _ + ((if a.i = i then room a.κ else 0) + Yk i (l ++ l2))
  rw [ih];omega
section
variable {t n k m nx : Nat} {q : Q} {gen : Nat -> Nat} {ls : List Ox} {cg : Int}
structure qc (t n k m : Nat) (q : Q) (o : Ox) : Prop where
 obj : Vr t n k m (q.sw o.x) o.Z o.i
 st : q.sw o.x % 8 = 1
 ad : ZA (q.sw o.x) = o.a
 gn : Zz (q.sw o.x) = o.g
 vr : ZB (q.sw o.x) = 0
 sz : Ws (q.dw (ZA (q.sw o.x))) = o.Z
 ow : VV (q.dw (ZA (q.sw o.x))) = o.own
 cl : ∀ j,j < o.Z -> frozenIn (q.dw (ZA (q.sw o.x) + 1 + j)) (ZB (q.sw o.x) + 1) = false
 rm : (ZM o.Z).toNat = o.κ
theorem WY.is (C : WY t n k m q nx gen ls) (hG : Good t n k m cg 600 3) (hn : n <= 65535) {o : Ox} (ho : o ∈ ls) : qc t n k m q o:=by
 have K:=C.ok o ho
 have A:=C.li o ho
 have hmk : k * m <= 64 * 256:=Nat.mul_le_mul hG.k1 hG.n1
 have ht:=hG.t1
 have hk:=hG.k1
 have hin:=TZ (t:=t) (n:=n) K.ik K.uk
 rw [<- K.ae] at hin
 have hr:=Yb K.z1 K.kz
 have hx1:=K.x1
 have dec:=VX (st:=1) (A:=o.a) (G:=o.g) (V:=0) (by decide) (by omega) K.g2 (by decide)
 have e : q.sw o.x = Zp ((1 : Nat) : Int) o.a o.g ((0 : Nat) : Int):=A.sw
 rw [<- e] at dec
 obtain ⟨d1,d2,d3,d4⟩:=dec
 have z2:=K.z2
 have g2:=K.g2
 obtain ⟨hs,hw2⟩:=VI (Z:=o.Z) (x:=o.x) (G:=o.g) (own:=o.own) (by omega) (by omega) g2
 rw [<- show q.dw o.a = Zg 2 o.Z o.x o.g o.own from A.hw] at hs hw2
 refine ⟨⟨by rw [e];exact WC _ _ _ _,by rw [d1];rfl,K.z1,K.z2,K.ik,o.u,?_,by rw [d2];exact K.ae⟩,d1,d2,d3,d4,by rw [d2];exact hs,by rw [d2];exact hw2,fun j hj=>?_,by rw [K.kz];simp⟩
 · have:=K.uk;omega
 · rw [d2,Nat.add_assoc,A.nt (1 + j) (by omega) (by omega)]
   rfl
theorem WY.room_le {l1 l2 : List Ox} {o : Ox} (C : WY t n k m q nx gen (l1 ++ o :: l2)) : room o.κ <= q.lv o.i:=by
 rw [C.lv o.i (C.ok o (by simp)).ik,QK,if_pos rfl]
 omega
theorem WY.end {l1 l2 : List Ox} {o : Ox} (C : WY t n k m q nx gen (l1 ++ o :: l2)) (hG : Good t n k m cg 600 3) (hn : n <= 65535) : WY t n k m (q.end cg o.x (q.sw o.x) o.Z o.i) nx gen (l1 ++ l2):=by
 have ho : o ∈ l1 ++ o :: l2:=by simp
 have hsub : ∀ o',o' ∈ l1 ++ l2 -> o' ∈ l1 ++ o :: l2:=fun o' h'=>by
  rcases List.mem_append.1 h' with h' | h' <;> simp [h']
 have I:=C.is hG hn ho
 have K:=C.ok o ho
 have hrm:=Yb K.z1 K.kz
 have hap : ∀ o',o' ∈ l1 ++ l2 -> o.apart o':=(List.pairwise_cons.1 ((List.pairwise_middle Ox.Ut).1 C.pw)).1
 have hout : ∀ o',o' ∈ l1 ++ l2 -> ∀ j',j' <= o'.Z -> ¬ (ZA (q.sw o.x) < o'.a + j' /\ o'.a + j' <= ZA (q.sw o.x) + o.Z):=by
  intro o' h' j' hj' ⟨h1,h2⟩
  rw [I.ad] at h1 h2
  have K':=C.ok o' (hsub o' h')
  have lZ:=Yb K'.z1 K'.kz
  have uk:=K.uk
  have kX:=K'.uk
  rcases (hap o' h').2 with e | e | e
  · refine Ox.XY K (j:=o'.a + j' - o.a) (i:=o'.i) (u:=o'.u + j') (by omega) (by omega) (Or.inl e) ?_
    have:=K'.ae;omega
  · refine Ox.XY K (j:=o'.a + j' - o.a) (i:=o'.i) (u:=o'.u + j') (by omega) (by omega) (Or.inr (by omega)) ?_
    have:=K'.ae;omega
  · refine Ox.XY K' (j:=j') (i:=o.i) (u:=o.u + (o'.a + j' - o.a)) (by omega) (by omega) (Or.inr (by omega)) ?_
    have:=K.ae;omega
 refine ⟨C.al,C.us,fun i hi u h1 h2=>?_,fun v hv=>?_,C.gb,fun o' h'=>C.gn o' (hsub o' h'),fun o' h'=>C.ok o' (hsub o' h'),fun o' h'=>?_,(List.pairwise_cons.1 ((List.pairwise_middle Ox.Ut).1 C.pw)).2,fun i hi=>?_,fun b=>?_⟩
 · show P5 q.dw _ _ _ _ = 0
   have hus:=(C.li o ho).us
   rw [Ru,C.dw i hi u h1 h2]
   rintro ⟨h3,h4⟩
   rw [I.ad] at h3 h4
   refine Ox.XY K (j:=base t n k m i + u - o.a) (i:=i) (u:=u) (by omega) h2 ?_ (by omega)
   by_cases e : o.i = i
   · right;rw [e] at hus;exact Nat.le_trans hus h1
   · exact Or.inl e
 · show upd q.sw o.x _ v = _
   have sQ : v ≠ o.x:=fun e=>(C.li o ho).nf (e ▸ hv)
   rw [Z7 _ _ _ _ sQ]
   exact C.sw v hv
 · have A':=C.li o' (hsub o' h')
   have hx : o'.x ≠ o.x:=fun e=>(hap o' h').1 e.symm
   refine ⟨A'.nf,?_,?_,fun j h1 h2=>?_,A'.us⟩
   · show upd q.sw o.x _ o'.x = _
     rw [Z7 _ _ _ _ hx];exact A'.sw
   · show P5 q.dw _ _ _ o'.a = _
     rw [Ru _ _ _ _ o'.a (hout o' h' 0 (Nat.zero_le _))];exact A'.hw
   · show P5 q.dw _ _ _ (o'.a + j) = _
     rw [Ru _ _ _ _ _ (hout o' h' j h2)];exact A'.nt j h1 h2
 · show upd q.lv o.i (q.lv o.i - room (ZM o.Z).toNat) i = _
   have hlv:=C.lv i hi
   rw [QK] at hlv
   rw [I.rm]
   by_cases e : i = o.i
   · subst e;rw [upd_same,hlv,if_pos rfl];omega
   · rw [Z7 _ _ _ _ e,hlv,if_neg (fun h=>e h.symm),Nat.zero_add]
 · show Wd (P5 q.dw _ _ _ b)
   unfold P5
   split
   · exact QJ _ _
   · exact C.wb b
theorem WY.gone {l1 l2 : List Ox} {o : Ox} (C : WY t n k m q nx gen (l1 ++ o :: l2)) (hG : Good t n k m cg 600 3) (hn : n <= 65535) (hl : (o.g : Int) < cg) : WY t n k m (q.gone cg o.x (q.sw o.x) o.Z o.i) nx (upd gen o.x (o.g + 1)) (l1 ++ l2):=by
 have ho : o ∈ l1 ++ o :: l2:=by simp
 have I:=C.is hG hn ho
 have hg1:=hG.g1
 have hap : ∀ o',o' ∈ l1 ++ l2 -> o.apart o':=(List.pairwise_cons.1 ((List.pairwise_middle Ox.Ut).1 C.pw)).1
 obtain ⟨al,us,dw,sw,gb,gn,ok,li,pw,lv,wb⟩:=C.end hG hn
 refine ⟨al,us,dw,fun v hv=>?_,fun v hv=>?_,fun o' h'=>?_,ok,fun o' h'=>?_,pw,lv,wb⟩
 · rcases List.mem_cons.1 hv with rfl | hv
   · show upd q.sw _ _ _ = _
     rw [upd_same,upd_same]
     unfold X7
     rw [I.gn,if_neg (by omega)]
     congr 1
   · have sQ : v ≠ o.x:=fun e=>(C.li o ho).nf (e ▸ hv)
     rw [Z7 _ _ _ _ sQ];exact sw v hv
 · by_cases e : v = o.x
   · subst e;rw [upd_same];omega
   · rw [Z7 _ _ _ _ e];exact gb v hv
 · have hx : o'.x ≠ o.x:=fun e=>(hap o' h').1 e.symm
   rw [Z7 _ _ _ _ hx];exact gn o' h'
 · have hx : o'.x ≠ o.x:=fun e=>(hap o' h').1 e.symm
   have A':=li o' h'
   refine ⟨fun hh=>?_,A'.sw,A'.hw,A'.nt,A'.us⟩
   rcases List.mem_cons.1 hh with e | hh
   · exact hx e
   · exact A'.nf hh
end
section
variable {w0 w w' : World} {L : Loc} {bE t n k m σ nx : Nat} {cg : Int} {s : Mm} {q : Q} {gen : Nat -> Nat} {own : Bool}
variable {ls : List Ox}
end
end
end Go.Proofs.YtmnnhjhhhfabiaaGreat
