import Derived.Test.YtlolfmoolgenpaaGreatDropGo
import Derived.Test.YtlolfmoolgenpaaGreatDropTame
namespace Go.Proofs.YtlolfmoolgenpaaGreat
open Go.RowKit
def adOf (v : Int) : Nat:=(v / 8 % 1048576).toNat
def verOf' (v : Int) : Nat:=(v / 549755813888 % 4194304).toNat
def szOf (u : Int) : Nat:=(u / 4 % 65536).toNat
def ownOf (u : Int) : Bool:=decide (u / 1125899906842624 % 2 = 1)
def frozenIn (u : Int) (V : Nat) : Bool:=decide (9223372036854775808 <= u) && decide (u / 1099511627776 % 4194304 = (V : Int))
def froze (u : Int) (V : Nat) : Int:=packX (u % 1099511627776) true V
def markW (v : Int) : Int:=packS 4 (adOf v) (genOf v) (verOf' v + 1)
def behindW (cg : Int) (v : Int) : Int:=if cg <= (genOf v : Int) then packS 3 0 (genOf v) 0 else packS 0 0 ((genOf v : Int) + 1) 0
def Wd (v : Int) : Prop:=0 <= v /\ v <= 18446744073709551615
theorem slotIs (v : Int) (h : Wd v) : SlotIs v (v % 8) (adOf v) (genOf v) (verOf' v) :=
 ⟨h.1,h.2,rfl,by unfold adOf;omega,by unfold genOf;omega,by unfold verOf';omega⟩
theorem adOf_le (v : Int) : adOf v <= 1048575:=by unfold adOf;omega
theorem headIs (u : Int) (h : Wd u) : HeadIs u (u % 4) (szOf u) (u / 262144 % 65536) (u / 17179869184 % 65536) (ownOf u) :=
 ⟨h.1,h.2,rfl,by unfold szOf;omega,rfl,rfl,rfl⟩
theorem packX_wd (a : Int) (f : Bool) (d : Int) : Wd (packX a f d):=packX_bd a f d
theorem packS_wd (a b c d : Int) : Wd (packS a b c d):=⟨(packS_bd a b c d).1,Int.le_trans (packS_bd a b c d).2 (by decide)⟩
theorem froze_wd (u : Int) (V : Nat) : Wd (froze u V):=packX_wd _ _ _
theorem behindW_wd (cg v : Int) : Wd (behindW cg v):=by unfold behindW;split <;> exact packS_wd _ _ _ _
inductive Hp where
 | go (v : Int) (Z j : Nat) (u : Option Int)
 | over (won : Bool)
def Hp.over? : Hp -> Bool
 | .over _=>true
 | _=>false
def hpEnd (cg : Int) (x : Nat) (q : Q) (v : Int) : Q × Hp :=
 if q.sw x = v then ({ q with sw:=upd q.sw x (behindW cg v) },.over true) else (q,.over false)
def hpTurn (cg : Int) (x : Nat) (q : Q) : Hp -> Q × Hp
 | .go v Z j none=>if Z <= j then hpEnd cg x q v else if frozenIn (q.dw (adOf v + 1 + j)) (verOf' v) then (q,.go v Z (j + 1) none) else (q,.go v Z j (some (q.dw (adOf v + 1 + j))))
 | .go v Z j (some u)=>if Z <= j then hpEnd cg x q v else if q.dw (adOf v + 1 + j) = u then ({ q with dw:=upd q.dw (adOf v + 1 + j) (froze u (verOf' v)) },.go v Z (j + 1) none) else (q,.go v Z j none)
 | .over w=>(q,.over w)
def Hp.cells (x : Nat) : Hp -> List Value -> Prop
 | .go v Z j none,l=>∃ se,l = HpV x v Z j se false false false
 | .go v Z j (some u),l=>l = HpV x v Z j u true false false
 | .over w,l=>∃ v Z j se ld,l = HpV x v Z j se ld true w
theorem Hp.cells_len {x : Nat} {η : Hp} {l : List Value} (h : η.cells x l) : l.length = 8:=by
 cases η with
 | go v Z j u =>
  cases u with
  | none=>obtain ⟨_,rfl⟩:=h;rfl
  | some u=>have h' : l = _:=h;subst h';rfl
 | over w=>obtain ⟨_,_,_,_,_,rfl⟩:=h;rfl
theorem Hp.cells_over {x : Nat} {η : Hp} {l : List Value} (h : η.cells x l) : l[6]? = some (.bool η.over?):=by
 cases η with
 | go v Z j u =>
  cases u with
  | none=>obtain ⟨_,rfl⟩:=h;rfl
  | some u=>have h' : l = _:=h;subst h';rfl
 | over w=>obtain ⟨_,_,_,_,_,rfl⟩:=h;rfl
structure Obj9 (t n k m : Nat) (v : Int) (Z i : Nat) : Prop where
 wd : Wd v
 life : lifeB (v % 8) = true
 z1 : 1 <= Z
 z2 : Z <= 16
 ik : i < k
 ad : ∃ u,u + Z < m /\ adOf v = base t n k m i + u
theorem Obj9.c1 {t n k m : Nat} {v : Int} {Z i : Nat} (h : Obj9 t n k m v Z i) : chunkOf t n k m (adOf v) = i:=by
 obtain ⟨u,hu,e⟩:=h.ad
 rw [e];exact chunkOf_in (u:=u) h.ik (by have:=h.z1;omega)
theorem Obj9.c2 {t n k m : Nat} {v : Int} {Z i : Nat} (h : Obj9 t n k m v Z i) : chunkOf t n k m ((adOf v : Int) + (Z : Int)) = i:=by
 obtain ⟨u,hu,e⟩:=h.ad
 have : (adOf v : Int) + (Z : Int) = ((base t n k m i + (u + Z) : Nat) : Int):=by rw [e];omega
 rw [this];exact chunkOf_in h.ik hu
theorem Obj9.inn {t n k m : Nat} {v : Int} {Z i : Nat} (h : Obj9 t n k m v Z i) : 6 + t + n * 2 + k * 3 <= adOf v /\ adOf v + Z < 6 + t + n * 2 + k * 3 + k * m:=by
 obtain ⟨u,hu,e⟩:=h.ad
 have:=base_in (t:=t) (n:=n) (m:=m) (u:=u) (r:=Z + 1) h.ik (by omega)
 rw [e];omega
def Hp.good (t n k m : Nat) : Hp -> Prop
 | .go v Z _ u=>(∃ i,Obj9 t n k m v Z i) /\ ∀ u',u = some u' -> Wd u'
 | .over _=>True
def Hp.at (t x : Nat) : Hp -> Nat
 | .go v Z j _=>if Z <= j then 6 + t + x * 2 else adOf v + 1 + j
 | .over _=>0
section
variable {w : World} {L : Loc} {s : Mm} {b o : Nat} {T : TypeId} {cs : Array Value} {t n k m σ : Nat} {g p r : Int} {q : Q}
theorem cas_hit {s : Mm} {who : Int} {a : Nat} {old v : Int} (h : s.wd a = old) : (s.by who).cas a old v = (s.by who).step a v:=by
 show (if s.wd a = old then _ else _) = _
 rw [if_pos h]
theorem cas_miss {s : Mm} {who : Int} {a : Nat} {old v : Int} (h : s.wd a ≠ old) : (s.by who).cas a old v = (s.by who).step a (s.wd a):=by
 show (if s.wd a = old then _ else _) = _
 rw [if_neg h];rfl
set_option maxHeartbeats 400000 in
theorem help_step (h : MemAt w L s) (hb : ¬ L.has b) (hT : Town t n k m s σ q) (hG : Good t n k m g p r) (hσ : σ < 1000000) (hdw : ∀ a,Wd (q.dw a)) {x : Nat} (hx : x < n) (η : Hp) {l : List Value} (hi : At w b o T cs l) (hc : η.cells x l) (hg : η.good t n k m) (ho : η.over? = false) (who : Int) (q' : Q) (η' : Hp) (hq : hpTurn g x q η = (q',η')) (d : Bool) (hd : η'.over? = d) :
 Calls Tryz.prog 123 #[.pointer (some ⟨b,o,none⟩),.agg #[.int .i64 t,.int .i64 n,.int .i64 k,.int .i64 m,.int .i64 g,.int .i64 p,.int .i64 r,.pointer (some ⟨L.p,0,none⟩),.int .i64 who]] w fun e w'=>e = .returned (.bool d) /\ Hact L b o T cs w w' (fun s' l'=>Town t n k m s' (σ + 1) q' /\ η'.cells x l' /\ ∃ v,s' = (s.by who).step (η.at t x) v):=by
 have hlen : arenaLen t n k m <= s.n:=by rw [hT.len];exact Nat.le_refl _
 have hlen':=hT.len
 have hxs : 6 + t + x * 2 < s.n:=by omega
 cases η with
 | over=>cases ho
 | go v Z j u =>
  obtain ⟨⟨i,O⟩,hu⟩:=hg
  have sl:=slotIs v O.wd
  have ab:=adOf_le v
  have z1:=O.z1
  have z2:=O.z2
  have hin:=O.inn
  have gb:=genOf_le v
  have g1:=hG.g1
  by_cases hj : Z <= j
  · have hq1 : hpEnd g x q v = (q',η'):=by
     cases u <;> simpa [hpTurn,hj] using hq
    have hat : Hp.at t x (.go v Z j u) = 6 + t + x * 2:=by simp [Hp.at,hj]
    rw [hat]
    obtain ⟨se,ld,rfl⟩ : ∃ se ld,l = HpV x v Z j se ld false false:=by
     cases u with
     | none=>obtain ⟨se,rfl⟩:=hc;exact ⟨se,false,rfl⟩
     | some u=>exact ⟨u,true,hc⟩
    have key : ∀ (nw : Int),behindW g v = nw -> (∀ w1 : World,MemAt w1 L s -> At w1 b o T cs (HpV x v Z j se ld false false) -> Calls Tryz.prog 132 #[.pointer (some ⟨b,o,none⟩),.agg #[.int .i64 t,.int .i64 n,.int .i64 k,.int .i64 m,.int .i64 g,.int .i64 p,.int .i64 r,.pointer (some ⟨L.p,0,none⟩),.int .i64 who],.agg #[.int .i64 (v % 8),.int .i64 (adOf v),.int .i64 (genOf v),.int .i64 (verOf' v)]] w1 fun e w'=>e = .returned (.tuple #[]) /\ Hact L b o T cs w1 w' (fun s' l'=>s' = (s.by who).cas (6 + t + x * 2) v nw /\ l' = HpV x v Z j se ld true (decide (s.wd (6 + t + x * 2) = v)))) ->
     Calls Tryz.prog 123 #[.pointer (some ⟨b,o,none⟩),.agg #[.int .i64 t,.int .i64 n,.int .i64 k,.int .i64 m,.int .i64 g,.int .i64 p,.int .i64 r,.pointer (some ⟨L.p,0,none⟩),.int .i64 who]] w fun e w'=>e = .returned (.bool d) /\ Hact L b o T cs w w' (fun s' l'=>Town t n k m s' (σ + 1) q' /\ η'.cells x l' /\ ∃ v,s' = (s.by who).step (6 + t + x * 2) v):=by
     intro nw hnw hcall
     refine hstep_end h hi who hG hlen hx sl O.life ab (by omega) (by omega) (i:=(i : Int)) (by omega) O.c1 O.c2 (by omega) _ d (fun s' l' P=>by rw [<- hd];exact Hp.cells_over P.2.1) fun w1 m1 i1=>(hcall w1 m1 i1).mono ?_
     rintro e w' ⟨rfl,s',cs',l',m',o',i',q9,rfl,rfl⟩
     refine ⟨rfl,_,cs',_,m',o',i',q9,?_⟩
     by_cases hw : q.sw x = v
     · have hw' : s.wd (6 + t + x * 2) = v:=by rw [hT.swv x hx];exact hw
       simp only [hpEnd,hw,if_true] at hq1
       obtain ⟨rfl,rfl⟩:=Prod.mk.inj hq1
       rw [cas_hit hw',decide_eq_true hw',<- hnw]
       exact ⟨hT.shows hσ who hx _ (behindW_wd g v).1 (behindW_wd g v).2,⟨_,_,_,_,_,rfl⟩,_,rfl⟩
     · have hw' : s.wd (6 + t + x * 2) ≠ v:=by rw [hT.swv x hx];exact hw
       simp only [hpEnd,hw,if_false] at hq1
       obtain ⟨rfl,rfl⟩:=Prod.mk.inj hq1
       rw [cas_miss hw',decide_eq_false hw']
       exact ⟨hT.same hσ who _,⟨_,_,_,_,_,rfl⟩,_,rfl⟩
    by_cases hl : g <= (genOf v : Int)
    · exact key _ (by unfold behindW;rw [if_pos hl]) fun w1 m1 i1=>hend_last m1 hb i1 who _ _ _ _ hG (by omega) (by omega) hl hx rfl hxs
    · exact key _ (by unfold behindW;rw [if_neg hl]) fun w1 m1 i1=>hend_next m1 hb i1 who _ _ _ _ hG (by omega) (by omega) (by omega) hx rfl hxs
  · have hat : Hp.at t x (.go v Z j u) = adOf v + 1 + j:=by simp [Hp.at,hj]
    rw [hat]
    have hn : adOf v + 1 + j < s.n:=by omega
    have hwd : s.wd (adOf v + 1 + j) = q.dw (adOf v + 1 + j):=hT.dwv _ (by omega)
    cases u with
    | none =>
     obtain ⟨se,rfl⟩:=hc
     simp only [hpTurn,hj,if_false] at hq
     have cell : CellIs (q.dw (adOf v + 1 + j)) _ _ _:=⟨(hdw _).1,(hdw _).2,rfl,rfl,rfl⟩
     by_cases hf : frozenIn (q.dw (adOf v + 1 + j)) (verOf' v) = true
     · rw [if_pos hf] at hq
       obtain ⟨rfl,rfl⟩:=Prod.mk.inj hq
       have hf':=hf
       unfold frozenIn at hf'
       rw [Bool.and_eq_true] at hf'
       obtain ⟨f1,f2⟩:=hf'
       refine hstep_load h hi who hG hlen hx sl O.life ab (by omega) (by omega) (i:=(i : Int)) (by omega) O.c1 O.c2 (by omega) _ d (fun s' l' P=>by rw [<- hd];exact Hp.cells_over P.2.1) fun w1 m1 i1=>(hload_pass m1 hb i1 who _ _ _ _ ab (by omega) hwd cell f1 (by rw [if_pos (of_decide_eq_true f1)];exact of_decide_eq_true f2) hn).mono ?_
       rintro e w' ⟨rfl,s',cs',l',m',o',i',q9,rfl,rfl⟩
       exact ⟨rfl,_,cs',_,m',o',i',q9,hT.same hσ who _,⟨_,rfl⟩,_,rfl⟩
     · rw [if_neg hf] at hq
       obtain ⟨rfl,rfl⟩:=Prod.mk.inj hq
       unfold frozenIn at hf
       rw [Bool.and_eq_true] at hf
       by_cases f1 : decide (9223372036854775808 <= q.dw (adOf v + 1 + j)) = true
       · refine hstep_load h hi who hG hlen hx sl O.life ab (by omega) (by omega) (i:=(i : Int)) (by omega) O.c1 O.c2 (by omega) _ d (fun s' l' P=>by rw [<- hd];exact Hp.cells_over P.2.1) fun w1 m1 i1=>(hload_anew m1 hb i1 who _ _ _ _ ab (by omega) hwd cell f1 (by rw [if_pos (of_decide_eq_true f1)];exact fun e=>hf ⟨f1,decide_eq_true e⟩) hn).mono ?_
         rintro e w' ⟨rfl,s',cs',l',m',o',i',q9,rfl,rfl⟩
         exact ⟨rfl,_,cs',_,m',o',i',q9,hT.same hσ who _,rfl,_,rfl⟩
       · refine hstep_load h hi who hG hlen hx sl O.life ab (by omega) (by omega) (i:=(i : Int)) (by omega) O.c1 O.c2 (by omega) _ d (fun s' l' P=>by rw [<- hd];exact Hp.cells_over P.2.1) fun w1 m1 i1=>(hload_keep m1 hb i1 who _ _ _ _ ab (by omega) hwd cell (by simpa using f1) hn).mono ?_
         rintro e w' ⟨rfl,s',cs',l',m',o',i',q9,rfl,rfl⟩
         exact ⟨rfl,_,cs',_,m',o',i',q9,hT.same hσ who _,rfl,_,rfl⟩
    | some u =>
     have hc' : l = _:=hc
     subst hc'
     simp only [hpTurn,hj,if_false] at hq
     have hub:=hu u rfl
     have cell : CellIs u _ _ _:=⟨hub.1,hub.2,rfl,rfl,rfl⟩
     have fv : Fit (verOf' v : Int):=⟨by omega,by unfold verOf';omega⟩
     by_cases hw : q.dw (adOf v + 1 + j) = u
     · rw [if_pos hw] at hq
       obtain ⟨rfl,rfl⟩:=Prod.mk.inj hq
       have hw' : s.wd (adOf v + 1 + j) = u:=hwd.trans hw
       refine hstep_freeze h hi who hG hlen hx sl O.life ab (by omega) (by omega) (i:=(i : Int)) (by omega) O.c1 O.c2 (by omega) _ d (fun s' l' P=>by rw [<- hd];exact Hp.cells_over P.2.1) fun w1 m1 i1=>(hfreeze_yes m1 hb i1 who _ _ _ _ ab (by omega) cell fv (decide_eq_true hw') hn).mono ?_
       rintro e w' ⟨rfl,s',cs',l',m',o',i',q9,rfl,rfl⟩
       rw [cas_hit hw'] at m'
       exact ⟨rfl,_,cs',_,m',o',i',q9,hT.lays hσ who (by omega) _,⟨_,rfl⟩,_,rfl⟩
     · rw [if_neg hw] at hq
       obtain ⟨rfl,rfl⟩:=Prod.mk.inj hq
       have hw' : s.wd (adOf v + 1 + j) ≠ u:=by rw [hwd];exact hw
       refine hstep_freeze h hi who hG hlen hx sl O.life ab (by omega) (by omega) (i:=(i : Int)) (by omega) O.c1 O.c2 (by omega) _ d (fun s' l' P=>by rw [<- hd];exact Hp.cells_over P.2.1) fun w1 m1 i1=>(hfreeze_no m1 hb i1 who _ _ _ _ ab (by omega) cell fv (decide_eq_false hw') hn).mono ?_
       rintro e w' ⟨rfl,s',cs',l',m',o',i',q9,rfl,rfl⟩
       rw [cas_miss hw'] at m'
       exact ⟨rfl,_,cs',_,m',o',i',q9,hT.same hσ who _,⟨_,rfl⟩,_,rfl⟩
end
inductive Dp where
 | see
 | ask (v : Int)
 | mark (v : Int) (Z : Nat)
 | help (η : Hp)
 | fin (Z i : Nat) (η : Hp)
 | count (Z i : Nat)
 | give (γ : Gv)
 | over (E : Int)
def Dp.over? : Dp -> Bool
 | .over _=>true
 | _=>false
def Dp.nx : Dp -> Int
 | .see=>0
 | .ask _=>1
 | .mark _ _=>2
 | .help _=>3
 | .fin _ _ _=>4
 | .count _ _=>5
 | .give _=>6
 | .over _=>7
theorem Dp.nx_over (α : Dp) : (α.nx == 7) = α.over?:=by cases α <;> rfl
def dpHelp : Q × Hp -> Q × Dp
 | (q',.over _)=>(q',.see)
 | (q',η')=>(q',.help η')
def dpFin (Z i : Nat) : Q × Hp -> Q × Dp
 | (q',.over _)=>(q',.count Z i)
 | (q',η')=>(q',.fin Z i η')
def dpGive (q : Q) : Nat × (Nat -> Nat) × List Nat × Gv -> Q × Dp
 | (c',lk',F',.over)=>({ q with c:=c',lk:=lk',F:=F' },.over 0)
 | (c',lk',F',γ')=>({ q with c:=c',lk:=lk',F:=F' },.give γ')
def dpAsk (own : Bool) (v u : Int) : Dp :=
 if ownOf u == own then (if v % 8 = 4 then .help (.go v (szOf u) 0 none) else .mark v (szOf u)) else .over 3
def dpTurn (t n k m : Nat) (cg : Int) (own : Bool) (x G : Nat) (q : Q) : Dp -> Q × Dp
 | .see=>(q,if lifeB (q.sw x % 8) && decide (genOf (q.sw x) = G) then .ask (q.sw x) else .over 3)
 | .ask v=>(q,dpAsk own v (q.dw (adOf v)))
 | .mark v Z=>if q.sw x = v then ({ q with sw:=upd q.sw x (markW v) },.fin Z (chunkOf t n k m (adOf v)).toNat (.go (markW v) Z 0 none)) else (q,.see)
 | .help η=>dpHelp (hpTurn cg x q η)
 | .fin Z i η=>dpFin Z i (hpTurn cg x q η)
 | .count Z i=>({ q with lv:=upd q.lv i (q.lv i - room (classOf Z).toNat) },if cg <= G then .over 0 else .give .idle)
 | .give γ=>dpGive q (gvTurn q.c q.lk q.F x γ)
 | .over E=>(q,.over E)
def Stands (t n k m : Nat) (q : Q) (v : Int) : Prop:=∃ i,Obj9 t n k m v (szOf (q.dw (adOf v))) i
def Dp.good (t n k m x G : Nat) (q : Q) : Dp -> Prop
 | .see=>lifeB (q.sw x % 8) = true -> genOf (q.sw x) = G -> Stands t n k m q (q.sw x)
 | .ask v=>Stands t n k m q v
 | .mark v Z=>∃ i,Obj9 t n k m v Z i
 | .help η=>η.good t n k m /\ η.over? = false
 | .fin _ _ η=>η.good t n k m /\ η.over? = false
 | .count Z i=>1 <= Z /\ Z <= 16 /\ i < k /\ room (classOf Z).toNat <= q.lv i
 | .give γ=>x ∉ q.F /\ γ.good n q.c q.lk q.F x /\ γ.done = false
 | .over _=>True
def Dp.at (t n x : Nat) : Dp -> Nat
 | .see=>6 + t + x * 2
 | .ask v=>adOf v
 | .mark _ _=>6 + t + x * 2
 | .help η=>η.at t x
 | .fin _ _ η=>η.at t x
 | .count _ i=>6 + t + n * 2 + i * 3 + 1
 | .give γ=>γ.at t x
 | .over _=>0
def Dp.sec (t n k m : Nat) : Dp -> Int -> Int -> Int -> Prop
 | .ask v,se,ch,_=>se = v /\ ch = chunkOf t n k m (adOf v)
 | .mark v Z,se,ch,sz=>se = v /\ ch = chunkOf t n k m (adOf v) /\ sz = Z
 | .fin Z i _,_,ch,sz=>ch = i /\ sz = Z
 | .count Z i,_,ch,sz=>ch = i /\ sz = Z
 | _,_,_,_=>True
def Dp.hlc (x : Nat) : Dp -> List Value -> Prop
 | .help η,l=>η.cells x l
 | .fin _ _ η,l=>η.cells x l
 | _,_=>True
def Dp.glc (x : Nat) : Dp -> List Value -> Prop
 | .give γ,l=>γ.cells x l
 | _,_=>True
def Dp.err : Dp -> Int
 | .over E=>E
 | _=>0
structure DpIs (t n k m : Nat) (nu : Int) (own : Bool) (x : Nat) (α : Dp) (a : DV) : Prop where
 nx : a.nx = α.nx
 nu : a.nu = nu
 ow : a.own = own
 sec : α.sec t n k m a.se a.ch a.sz
 hl : α.hlc x a.hl
 gl : α.glc x a.gl
 E : a.E = α.err
 H : a.H = 0
 V : a.V = 0
theorem dp0_is (t n k m : Nat) (nu : Int) (own : Bool) (x : Nat) : DpIs t n k m nu own x .see (dv0 nu own):=⟨rfl,rfl,rfl,trivial,trivial,trivial,rfl,rfl,rfl⟩
theorem Town.uncounts {t n k m : Nat} {s : Mm} {σ : Nat} {q : Q} (h : Town t n k m s σ q) (hσ : σ < 1000000) (who : Int) {i r : Nat} (hi : i < k) (hr : r <= 17) (hl : r <= q.lv i) :
 Town t n k m ((s.by who).step (6 + t + n * 2 + i * 3 + 1) (sum64 (s.wd (6 + t + n * 2 + i * 3 + 1)) (word64 (-(r : Int))))) (σ + 1) { q with lv:=upd q.lv i (q.lv i - r) }:=by
 have hb:=h.lvb i hi
 have hv : sum64 (s.wd (6 + t + n * 2 + i * 3 + 1)) (word64 (-(r : Int))) = owe (q.lv i - r) (q.db i):=by
  rw [h.lvw i hi];exact owe_sub _ _ _ hl
 refine ⟨h.pile.off hσ who _ _ (by omega) (fun x hx=>by omega),h.yard.off hσ who _ _ (by omega) (fun j hj=>by omega),fun j hj=>?_,fun j hj=>?_,fun x hx=>?_,h.swb,fun b hb=>?_,?_⟩
 · by_cases e : j = i
   · subst e
     rw [Town.step_at,hv]
     show _ = owe (upd q.lv j (q.lv j - r) j) (q.db j)
     rw [upd_same]
   · rw [Town.step_wd who _ _ _ (by omega)]
     show _ = owe (upd q.lv i (q.lv i - r) j) (q.db j)
     rw [upd_other _ _ _ _ e];exact h.lvw j hj
 · show upd q.lv i (q.lv i - r) j <= 17 * (σ + 1)
   by_cases e : j = i
   · subst e;rw [upd_same];omega
   · rw [upd_other _ _ _ _ e];have:=h.lvb j hj;omega
 · rw [Town.step_wd who _ _ _ (by omega)];exact h.swv x hx
 · rw [Town.step_wd who _ _ _ (by omega)];exact h.dwv b hb
 · rw [Town.step_wd who _ _ _ (by omega)];exact h.ep
def Dp.reads : Dp -> Bool
 | .see=>true
 | .ask _=>true
 | _=>false
def Tl (t x σ : Nat) (s' : Mm) (a a' : DV) : Dp -> Dp -> Prop
 | .fin _ _ _,.count _ _=>a'.St = s'.wn (6 + t + x * 2)
 | .count _ _,_=>a'.St = a.St
 | .give _,_=>a'.St = a.St
 | .see,.over _=>a'.St = ((σ + 1 : Nat) : Int)
 | .ask _,.over _=>a'.St = ((σ + 1 : Nat) : Int)
 | _,_=>True
structure DDid (w : World) (L : Loc) (s : Mm) (a : DV) (b o : Nat) (T : TypeId) (cs : Array Value) (t n k m σ : Nat) (nu : Int) (own : Bool) (x : Nat) (who : Int) (α : Dp) (q' : Q) (α' : Dp) (w' : World) (s' : Mm) (cs' : Array Value) (a' : DV) : Prop where
 mm : MemAt w' L s'
 tw : Town t n k m s' (σ + 1) q'
 dp : DpAt w' b o T cs' a'
 is : DpIs t n k m nu own x α' a'
 same : Same o 21 cs cs'
 only : Only (L.and b) w w'
 st : ∃ v,s' = (s.by who).step (α.at t n x) v
 rd : α.reads = true -> s' = (s.by who).step (α.at t n x) (s.wd (α.at t n x))
 tl : Tl t x σ s' a a' α α'
theorem dpHelp_on {q' : Q} {η' : Hp} (h : η'.over? = false) : dpHelp (q',η') = (q',.help η'):=by
 cases η' with
 | over=>cases h
 | go=>rfl
theorem dpFin_on {Z i : Nat} {q' : Q} {η' : Hp} (h : η'.over? = false) : dpFin Z i (q',η') = (q',.fin Z i η'):=by
 cases η' with
 | over=>cases h
 | go=>rfl
theorem dpGive_on {q : Q} {c' : Nat} {lk' : Nat -> Nat} {F' : List Nat} {γ' : Gv} (h : γ'.done = false) : dpGive q (c',lk',F',γ') = ({ q with c:=c',lk:=lk',F:=F' },.give γ'):=by
 cases γ' with
 | over=>cases h
 | _=>rfl
theorem Hp.is_over {η : Hp} (h : η.over? = true) : ∃ w,η = .over w:=by
 cases η with
 | over w=>exact ⟨w,rfl⟩
 | go=>cases h
theorem class_room {Z : Nat} (z1 : 1 <= Z) (z2 : Z <= 16) : classOf Z = ((classOf Z).toNat : Nat) /\ (classOf Z).toNat < 4:=by
 unfold classOf
 rw [if_neg (by omega)]
 repeat' split
 all_goals omega
section
variable {w : World} {L : Loc} {s : Mm} {b o : Nat} {T : TypeId} {cs : Array Value} {a : DV} {t n k m σ : Nat} {g p r : Int} {q : Q} {nu : Int} {own : Bool}
set_option maxHeartbeats 1000000 in
theorem drop_step (h : MemAt w L s) (hb : ¬ L.has b) (hT : Town t n k m s σ q) (hG : Good t n k m g p r) (hσ : σ < 1000000) (hdw : ∀ a,Wd (q.dw a)) {x G : Nat} (hh : HandIs nu x G) (hx : x < n) (α : Dp) (hi : DpAt w b o T cs a) (his : DpIs t n k m nu own x α a) (hg : α.good t n k m x G q) (ho : α.over? = false) (who : Int) (q' : Q) (α' : Dp) (hq : dpTurn t n k m g own x G q α = (q',α')) (d : Bool) (hd : α'.over? = d) :
 Calls Tryz.prog 116 #[.pointer (some ⟨b,o,none⟩),.agg #[.int .i64 t,.int .i64 n,.int .i64 k,.int .i64 m,.int .i64 g,.int .i64 p,.int .i64 r,.pointer (some ⟨L.p,0,none⟩),.int .i64 who]] w fun e w'=>e = .returned (.bool d) /\ ∃ s' cs' a',DDid w L s a b o T cs t n k m σ nu own x who α q' α' w' s' cs' a':=by
 have hlen : arenaLen t n k m <= s.n:=by rw [hT.len];exact Nat.le_refl _
 have hlen':=hT.len
 have hmk : k * m <= 64 * 256:=Nat.mul_le_mul hG.k1 hG.n1
 have hxs : 6 + t + x * 2 < s.n:=by omega
 have hst : wrap64 (s.steps + 1) = ((σ + 1 : Nat) : Int):=by rw [hT.pile.st];exact hT.pile.wrapS hσ
 have hh':=hh
 obtain ⟨inx,inu,iow,isec,ihl,igl,iE,iH,iV⟩:=his
 rw [<- inu] at hh
 have hdn:=Dp.nx_over α'
 rw [hd] at hdn
 cases α with
 | over=>cases ho
 | see =>
  obtain ⟨v,hv⟩ : ∃ v,q.sw x = v:=⟨_,rfl⟩
  have hwv : s.wd (6 + t + x * 2) = v:=by rw [hT.swv x hx];exact hv
  have wv : Wd v:=by rw [<- hv];exact hT.swb x hx
  have sl:=slotIs v wv
  simp only [dpTurn,hv] at hq
  simp only [Dp.good,hv] at hg
  by_cases hl : (lifeB (v % 8) && decide (genOf v = G)) = true
  · rw [if_pos hl] at hq
    obtain ⟨rfl,rfl⟩:=Prod.mk.inj hq
    rw [Bool.and_eq_true] at hl
    obtain ⟨i,O⟩:=hg hl.1 (of_decide_eq_true hl.2)
    have hl' : (lifeB (v % 8) && ((genOf v : Int) == (G : Int))) = true:=by
     rw [hl.1,of_decide_eq_true hl.2];simp
    refine (dstep_see h hi who hG hlen hh hx inx _ d ?_ (fun w1 m1 i1=>dsee_yes m1 hb i1 who hG hx hxs hwv sl (ci:=chunkOf t n k m (adOf v)) rfl hl' (by rw [O.c1];omega))).mono ?_
    · rintro s' a' ⟨_,rfl⟩
      rw [<- hdn];rfl
    · rintro e w' ⟨rfl,s',cs',a',m',o',i',sm,rfl,rfl⟩
      exact ⟨rfl,_,cs',_,m',hT.same hσ who _,i',⟨rfl,inu,iow,⟨rfl,rfl⟩,trivial,trivial,iE,iH,iV⟩,sm,o',⟨_,rfl⟩,fun _=>rfl,by first | exact trivial | rfl⟩
  · rw [if_neg hl] at hq
    obtain ⟨rfl,rfl⟩:=Prod.mk.inj hq
    have hl' : (lifeB (v % 8) && ((genOf v : Int) == (G : Int))) = false:=by
     rw [Bool.not_eq_true] at hl
     rw [<- hl]
     congr 1
     rw [Bool.eq_iff_iff]
     simp only [beq_iff_eq,decide_eq_true_eq]
     omega
    refine (dstep_see h hi who hG hlen hh hx inx _ d ?_ (fun w1 m1 i1=>dsee_no m1 hb i1 who hG hx hxs hwv sl (ci:=chunkOf t n k m (adOf v)) rfl hl' (by rw [inx];decide) hst)).mono ?_
    · rintro s' a' ⟨_,rfl⟩
      rw [<- hdn];rfl
    · rintro e w' ⟨rfl,s',cs',a',m',o',i',sm,rfl,rfl⟩
      exact ⟨rfl,_,cs',_,m',hT.same hσ who _,i',⟨rfl,inu,iow,trivial,trivial,trivial,rfl,rfl,rfl⟩,sm,o',⟨_,rfl⟩,fun _=>rfl,by first | exact trivial | rfl⟩
 | ask v =>
  obtain ⟨i,O⟩:=hg
  obtain ⟨rfl,ich⟩:=isec
  have sl:=slotIs a.se O.wd
  have hin:=O.inn
  have hwu : s.wd (adOf a.se) = q.dw (adOf a.se):=hT.dwv _ hin.1
  have hd1:=headIs _ (hdw (adOf a.se))
  have hq' : (q,dpAsk own a.se (q.dw (adOf a.se))) = (q',α'):=hq
  obtain ⟨rfl,hα⟩:=Prod.mk.inj hq'
  have hnA : adOf a.se < s.n:=by omega
  by_cases hw : (ownOf (q.dw (adOf a.se)) == own) = true
  · have hwo : (ownOf (q.dw (adOf a.se)) == a.own) = true:=by rw [iow];exact hw
    simp only [dpAsk,hw,if_true] at hα
    by_cases h4 : a.se % 8 = 4
    · rw [if_pos h4] at hα
      subst hα
      refine (dstep_ask h hi who hG hlen hh hx inx _ d ?_ (fun w1 m1 i1=>dask_help m1 hb i1 who sl hnA hwu hd1 hwo h4)).mono ?_
      · rintro s' a' ⟨_,rfl⟩
        rw [<- hdn];rfl
      · rintro e w' ⟨rfl,s',cs',a',m',o',i',sm,rfl,rfl⟩
        exact ⟨rfl,_,cs',_,m',hT.same hσ who _,i',⟨rfl,inu,iow,trivial,⟨0,rfl⟩,trivial,iE,iH,iV⟩,sm,o',⟨_,rfl⟩,fun _=>rfl,by first | exact trivial | rfl⟩
    · rw [if_neg h4] at hα
      subst hα
      refine (dstep_ask h hi who hG hlen hh hx inx _ d ?_ (fun w1 m1 i1=>dask_go m1 hb i1 who sl hnA hwu hd1 hwo h4)).mono ?_
      · rintro s' a' ⟨_,rfl⟩
        rw [<- hdn];rfl
      · rintro e w' ⟨rfl,s',cs',a',m',o',i',sm,rfl,rfl⟩
        exact ⟨rfl,_,cs',_,m',hT.same hσ who _,i',⟨rfl,inu,iow,⟨rfl,ich,rfl⟩,trivial,trivial,iE,iH,iV⟩,sm,o',⟨_,rfl⟩,fun _=>rfl,by first | exact trivial | rfl⟩
  · have hw' : (ownOf (q.dw (adOf a.se)) == own) = false:=by simpa using hw
    have hwo : (ownOf (q.dw (adOf a.se)) == a.own) = false:=by rw [iow];exact hw'
    simp only [dpAsk,hw'] at hα
    subst hα
    refine (dstep_ask h hi who hG hlen hh hx inx _ d ?_ (fun w1 m1 i1=>dask_no m1 hb i1 who sl hnA hwu hd1 (by rw [inx];show (1 : Int) < 5;decide) hwo hst)).mono ?_
    · rintro s' a' ⟨_,rfl⟩
      rw [<- hdn];rfl
    · rintro e w' ⟨rfl,s',cs',a',m',o',i',sm,rfl,rfl⟩
      exact ⟨rfl,_,cs',_,m',hT.same hσ who _,i',⟨rfl,inu,iow,trivial,trivial,trivial,rfl,rfl,rfl⟩,sm,o',⟨_,rfl⟩,fun _=>rfl,by first | exact trivial | rfl⟩
 | mark v Z =>
  obtain ⟨i,O⟩:=hg
  obtain ⟨rfl,ich,isz⟩:=isec
  have sl:=slotIs a.se O.wd
  by_cases hw : q.sw x = a.se
  · have hw' : s.wd (6 + t + x * 2) = a.se:=by rw [hT.swv x hx];exact hw
    simp only [dpTurn,hw,if_true] at hq
    obtain ⟨rfl,rfl⟩:=Prod.mk.inj hq
    refine (dstep_mark h hi who hG hlen hh hx inx _ d ?_ (fun w1 m1 i1=>dmark_yes m1 hb i1 who hG hx hxs isz sl (decide_eq_true hw'))).mono ?_
    · rintro s' a' ⟨_,rfl⟩
      rw [<- hdn];rfl
    · rintro e w' ⟨rfl,s',cs',a',m',o',i',sm,rfl,rfl⟩
      rw [cas_hit hw'] at m'
      refine ⟨rfl,_,cs',_,m',hT.shows hσ who hx _ (packS_wd _ _ _ _).1 (packS_wd _ _ _ _).2,i',⟨rfl,inu,iow,⟨?_,isz⟩,⟨0,rfl⟩,trivial,iE,iH,iV⟩,sm,o',⟨_,rfl⟩,(fun h=>by cases h),by first | exact trivial | rfl⟩
      show a.ch = _
      rw [ich,O.c1];simp
  · have hw' : s.wd (6 + t + x * 2) ≠ a.se:=by rw [hT.swv x hx];exact hw
    simp only [dpTurn,hw,if_false] at hq
    obtain ⟨rfl,rfl⟩:=Prod.mk.inj hq
    refine (dstep_mark h hi who hG hlen hh hx inx _ d ?_ (fun w1 m1 i1=>dmark_no m1 hb i1 who hG hx hxs sl (decide_eq_false hw'))).mono ?_
    · rintro s' a' ⟨_,rfl⟩
      rw [<- hdn];rfl
    · rintro e w' ⟨rfl,s',cs',a',m',o',i',sm,rfl,rfl⟩
      rw [cas_miss hw'] at m'
      exact ⟨rfl,_,cs',_,m',hT.same hσ who _,i',⟨rfl,inu,iow,trivial,trivial,trivial,iE,iH,iV⟩,sm,o',⟨_,rfl⟩,(fun h=>by cases h),by first | exact trivial | rfl⟩
 | help η =>
  obtain ⟨gη,oη⟩:=hg
  obtain ⟨q1,η1,ht⟩ : ∃ q1 η1,hpTurn g x q η = (q1,η1):=⟨_,_,rfl⟩
  simp only [dpTurn,ht] at hq
  cases hf : η1.over? with
  | false =>
   rw [dpHelp_on hf] at hq
   obtain ⟨rfl,rfl⟩:=Prod.mk.inj hq
   obtain rfl : false = d:=hd
   refine (dstep_help_on h hi who hG hlen hh hx inx _ (fun s' l' P=>Hp.cells_len P.2.1) (fun w1 m1 i1=>help_step m1 hb hT hG hσ hdw hx η i1 ihl gη oη who _ _ ht false hf)).mono ?_
   rintro e w' ⟨rfl,s',cs',a',m',o',i',sm,l',⟨t',c',st'⟩,rfl⟩
   exact ⟨rfl,_,cs',_,m',t',i',⟨inx,inu,iow,trivial,c',trivial,iE,iH,iV⟩,sm,o',st',(fun h=>by cases h),by first | exact trivial | rfl⟩
  | true =>
   obtain ⟨wn,rfl⟩:=Hp.is_over hf
   have hq' : (q1,Dp.see) = (q',α'):=hq
   obtain ⟨rfl,rfl⟩:=Prod.mk.inj hq'
   obtain rfl : false = d:=hd
   refine (dstep_help_done h hi who hG hlen hh hb hx inx _ (fun s' l' P=>Hp.cells_len P.2.1) (fun w1 m1 i1=>help_step m1 hb hT hG hσ hdw hx η i1 ihl gη oη who _ _ ht true hf)).mono ?_
   rintro e w' ⟨rfl,s',cs',a',m',o',i',sm,l',⟨t',c',st'⟩,rfl⟩
   exact ⟨rfl,_,cs',_,m',t',i',⟨rfl,inu,iow,trivial,trivial,trivial,iE,iH,iV⟩,sm,o',st',(fun h=>by cases h),by first | exact trivial | rfl⟩
 | fin Z i η =>
  obtain ⟨gη,oη⟩:=hg
  obtain ⟨q1,η1,ht⟩ : ∃ q1 η1,hpTurn g x q η = (q1,η1):=⟨_,_,rfl⟩
  simp only [dpTurn,ht] at hq
  cases hf : η1.over? with
  | false =>
   rw [dpFin_on hf] at hq
   obtain ⟨rfl,rfl⟩:=Prod.mk.inj hq
   refine (dstep_end h hi who hG hlen hh hx inx _ d ?_ (fun w1 m1 i1=>dend_on m1 i1 who _ (fun s' l' P=>Hp.cells_len P.2.1) (fun w2 m2 i2=>help_step m2 hb hT hG hσ hdw hx η i2 ihl gη oη who _ _ ht false hf))).mono ?_
   · rintro s' a' ⟨l',_,rfl⟩
     rw [<- hdn]
     show (a.nx == 7) = _
     rw [inx];rfl
   · rintro e w' ⟨rfl,s',cs',a',m',o',i',sm,l',⟨t',c',st'⟩,rfl⟩
     exact ⟨rfl,_,cs',_,m',t',i',⟨inx,inu,iow,isec,c',trivial,iE,iH,iV⟩,sm,o',st',(fun h=>by cases h),by first | exact trivial | rfl⟩
  | true =>
   obtain ⟨wn,rfl⟩:=Hp.is_over hf
   have hq' : (q1,Dp.count Z i) = (q',α'):=hq
   obtain ⟨rfl,rfl⟩:=Prod.mk.inj hq'
   refine (dstep_end h hi who hG hlen hh hx inx _ d ?_ (fun w1 m1 i1=>dend_done m1 hb i1 who hG hx _ (fun s' l' P=>Hp.cells_len P.2.1) (fun s' l' P=>by have:=P.1.len;omega) (fun w2 m2 i2=>help_step m2 hb hT hG hσ hdw hx η i2 ihl gη oη who _ _ ht true hf))).mono ?_
   · rintro s' a' ⟨l',_,rfl⟩
     rw [<- hdn];rfl
   · rintro e w' ⟨rfl,s',cs',a',m',o',i',sm,l',⟨t',c',st'⟩,rfl⟩
     exact ⟨rfl,_,cs',_,m',t',i',⟨rfl,inu,iow,isec,trivial,trivial,iE,iH,iV⟩,sm,o',st',(fun h=>by cases h),by first | exact trivial | rfl⟩
 | count Z i =>
  obtain ⟨z1,z2,hik,hlv⟩:=hg
  obtain ⟨ich,isz⟩:=isec
  obtain ⟨kz,hκ⟩:=class_room z1 z2
  have hr:=room_bd (classOf Z).toNat
  have hnc : 6 + t + n * 2 + i * 3 + 1 < s.n:=by omega
  have tw:=hT.uncounts hσ who hik hr.2 hlv
  by_cases hl : g <= (G : Int)
  · have hq' : ({ q with lv:=upd q.lv i (q.lv i - room (classOf Z).toNat) },Dp.over 0) = (q',α'):=by rw [<- hq];simp [dpTurn,hl]
    obtain ⟨rfl,rfl⟩:=Prod.mk.inj hq'
    refine (dstep_count h hi who hG hlen hh hx inx _ d ?_ (fun w1 m1 i1=>dcount_last m1 hb i1 who hG ich hik isz kz hκ hnc hl)).mono ?_
    · rintro s' a' ⟨_,rfl⟩
      rw [<- hdn];rfl
    · rintro e w' ⟨rfl,s',cs',a',m',o',i',sm,rfl,rfl⟩
      exact ⟨rfl,_,cs',_,m',tw,i',⟨rfl,inu,iow,trivial,trivial,trivial,iE,iH,iV⟩,sm,o',⟨_,rfl⟩,(fun h=>by cases h),by first | exact trivial | rfl⟩
  · have hq' : ({ q with lv:=upd q.lv i (q.lv i - room (classOf Z).toNat) },Dp.give .idle) = (q',α'):=by rw [<- hq];simp [dpTurn,hl]
    obtain ⟨rfl,rfl⟩:=Prod.mk.inj hq'
    refine (dstep_count h hi who hG hlen hh hx inx _ d ?_ (fun w1 m1 i1=>dcount_next m1 hb i1 who hG ich hik isz kz hκ hnc (by omega))).mono ?_
    · rintro s' a' ⟨_,rfl⟩
      rw [<- hdn];rfl
    · rintro e w' ⟨rfl,s',cs',a',m',o',i',sm,rfl,rfl⟩
      exact ⟨rfl,_,cs',_,m',tw,i',⟨rfl,inu,iow,trivial,trivial,⟨0,rfl⟩,iE,iH,iV⟩,sm,o',⟨_,rfl⟩,(fun h=>by cases h),by first | exact trivial | rfl⟩
 | give γ =>
  obtain ⟨hxF,gγ,oγ⟩:=hg
  obtain ⟨c',lk',F',γ',ht⟩ : ∃ c' lk' F' γ',gvTurn q.c q.lk q.F x γ = (c',lk',F',γ'):=⟨_,_,_,_,rfl⟩
  have hat:=Gv.at_in (t:=t) hx γ
  simp only [dpTurn,ht] at hq
  cases hf : γ'.done with
  | false =>
   rw [dpGive_on hf] at hq
   obtain ⟨rfl,rfl⟩:=Prod.mk.inj hq
   obtain rfl : false = d:=hd
   refine (dstep_give_on h hi who hG hlen hh hx inx (fun w1 m1 i1=>give_turn m1 hb hT.pile hσ hG.t1 hx hxF γ ⟨_,i1,igl⟩ gγ oγ _ _ _ _ _ who c' lk' F' γ' ht false hf)).mono ?_
   rintro e w' ⟨rfl,s',cs',a',m',o',i',sm,p',⟨v,rfl⟩,g',l,hl,rfl⟩
   exact ⟨rfl,_,cs',_,m',hT.slots hσ who _ v hat p',i',⟨inx,inu,iow,trivial,trivial,hl,iE,iH,iV⟩,sm,o',⟨v,rfl⟩,(fun h=>by cases h),by first | exact trivial | rfl⟩
  | true =>
   have:=Gv.is_over hf
   subst this
   have hq' : ({ q with c:=c',lk:=lk',F:=F' },Dp.over 0) = (q',α'):=hq
   obtain ⟨rfl,rfl⟩:=Prod.mk.inj hq'
   obtain rfl : true = d:=hd
   refine (dstep_give_over h hi who hG hlen hh hb hx inx (fun w1 m1 i1=>give_turn m1 hb hT.pile hσ hG.t1 hx hxF γ ⟨_,i1,igl⟩ gγ oγ _ _ _ _ _ who c' lk' F' _ ht true hf)).mono ?_
   rintro e w' ⟨rfl,s',cs',a',m',o',i',sm,p',⟨v,rfl⟩,g',l,hl,rfl⟩
   exact ⟨rfl,_,cs',_,m',hT.slots hσ who _ v hat p',i',⟨rfl,inu,iow,trivial,trivial,trivial,iE,iH,iV⟩,sm,o',⟨v,rfl⟩,(fun h=>by cases h),by first | exact trivial | rfl⟩
end
end Go.Proofs.YtlolfmoolgenpaaGreat
