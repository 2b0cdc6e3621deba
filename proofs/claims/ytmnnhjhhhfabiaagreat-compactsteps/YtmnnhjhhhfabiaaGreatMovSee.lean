import Derived.Test.YtmnnhjhhhfabiaaGreatDropFarm
import Derived.Test.YtmnnhjhhhfabiaaGreatMovAt
namespace Go.Proofs.YtmnnhjhhhfabiaaGreat
open Go.RowKit
section
def uV (c : Int) : Int:=c % 1099511627776
def ry (c : Int) : Bool:=decide (9223372036854775808 <= c)
def xC (c : Int) : Int:=if 9223372036854775808 <= c then c / 1099511627776 % 4194304 else 0
section
variable {t n k m x G Z i σ : Nat} {v : Int} {own : Bool} {q : Q}
end
end
section
structure Mw where
 A : Nat
 ia : Nat
 Z : Nat
 κ : Nat
 x : Nat
 G : Nat
 own : Bool
 tr : Int
structure Mw.ok (t n k m : Nat) (W : Mw) : Prop where
 z1 : 1 <= W.Z
 z2 : W.Z <= 16
 kz : ZM W.Z = W.κ
 k4 : W.κ < 4
 x1 : W.x < n
 g2 : W.G <= 65535
 ik : W.ia < k
 ad : ∃ u,u + W.Z < m /\ W.A = base t n k m W.ia + u
inductive Mv where
 | see (τ : Pl) (f : Nat)
 | place (v : Int) (τ : Pl) (f : Nat)
 | head (v : Int) (a i f : Nat)
 | mark (v : Int) (a i f : Nat)
 | load (v : Int) (a i j f : Nat)
 | freeze (v c : Int) (a i j f : Nat)
 | copy (v c : Int) (a i j f : Nat)
 | shw (v : Int) (a i f : Nat)
 | ready (a i : Nat)
 | grow (a i : Nat)
 | fall (a i : Nat)
 | TV (out : Int) (a i : Nat)
 | over (out : Int) (τ : Pl)
def Mv.Zy : Mv -> Bool
 | .over _ _=>true
 | _=>false
def Mv.nx : Mv -> Int
 | .see _ _=>0
 | .place _ _ _=>1
 | .head _ _ _ _=>2
 | .mark _ _ _ _=>3
 | .load _ _ _ _ _=>4
 | .freeze _ _ _ _ _ _=>5
 | .copy _ _ _ _ _ _=>6
 | .shw _ _ _ _=>7
 | .ready _ _=>8
 | .grow _ _=>9
 | .fall _ _=>10
 | .TV _ _ _=>11
 | .over _ _=>12
theorem Mv.Ua (μ : Mv) : (μ.nx == 12) = μ.Zy:=by cases μ <;> rfl
def Mv.pl : Mv -> Pl
 | .see τ _=>τ
 | .place _ τ _=>τ
 | .head _ a i _=>.Yn a i
 | .mark _ a i _=>.Yn a i
 | .load _ a i _ _=>.Yn a i
 | .freeze _ _ a i _ _=>.Yn a i
 | .copy _ _ a i _ _=>.Yn a i
 | .shw _ a i _=>.Yn a i
 | .ready a i=>.Yn a i
 | .grow a i=>.Yn a i
 | .fall a i=>.Yn a i
 | .TV _ a i=>.Yn a i
 | .over _ τ=>τ
def Wh (out : Int) : Pl -> Mv
 | .Yn a i=>.TV out a i
 | τ=>.over out τ
def Bd (v : Int) (f : Nat) : Pl -> Mv
 | .Yn a i=>.head v a i f
 | τ=>.place v τ f
def VY (v : Int) : Int:=Zp 2 (ZA v) (Zz v) (ZB v)
def WL (v : Int) (a : Nat) : Int:=Zp 1 a (Zz v) (ZB v + 1)
def Mw.here (W : Mw) (v : Int) : Bool:=decide (Zz v = W.G) && decide (ZA v = W.A)
def Vt (W : Mw) (v : Int) (τ : Pl) (f : Nat) : Mv :=
 if W.here v && decide (v % 8 = 4) then Wh 3 τ
 else if W.here v && decide (v % 8 = 1) then (if 4194302 <= ZB v then Wh 3 τ else Bd v f τ)
 else Wh 2 τ
def UZ (q : Q) (v : Int) (f : Nat) : Y × Pl -> Q × Mv
 | (y',.Yn a i)=>({ q with y:=y' },.head v a i f)
 | (y',.none)=>({ q with y:=y' },.over 4 .none)
 | (y',τ')=>({ q with y:=y' },.place v τ' f)
def Mw.hw (W : Mw) (kd : Int) : Int:=Zg kd W.Z W.x W.G W.own
def Yo (W : Mw) (k m : Nat) (bs : Nat -> Nat) (q : Q) : Mv -> Q × Mv
 | .see τ f=>(q,Vt W (q.sw W.x) τ f)
 | .place v τ f=>UZ q v f (turn k m W.κ bs q.y τ)
 | .head v a i f=>({ q with dw:=upd q.dw a (W.hw 1) },.mark v a i f)
 | .mark v a i f=>if q.sw W.x = v then ({ q with sw:=upd q.sw W.x (VY v) },.load (VY v) a i 0 f) else (q,.see (.Yn a i) f)
 | .load v a i j f=>(q,if ry (q.dw (W.A + 1 + j)) && decide ((ZB v : Int) <= xC (q.dw (W.A + 1 + j))) then .copy v (q.dw (W.A + 1 + j)) a i j f else .freeze v (q.dw (W.A + 1 + j)) a i j f)
 | .freeze v c a i j f=>if q.dw (W.A + 1 + j) = c then ({ q with dw:=upd q.dw (W.A + 1 + j) (froze c (ZB v)) },.copy v c a i j f) else (q,.load v a i j f)
 | .copy v c a i j f=>({ q with dw:=upd q.dw (a + 1 + j) (XP (uV c) false 0) },if W.Z <= j + 1 then .shw v a i f else .load v a i (j + 1) f)
 | .shw v a i f=>if q.sw W.x = v then ({ q with sw:=upd q.sw W.x (WL v a),lv:=upd q.lv i (q.lv i + room W.κ),db:=upd q.db i (q.db i + room W.κ) },.ready a i) else (q,if W.tr <= (f : Int) + 1 then .TV 3 a i else .see (.Yn a i) (f + 1))
 | .ready a i=>({ q with dw:=upd q.dw a (W.hw 2) },.grow a i)
 | .grow a i=>({ q with db:=upd q.db i (q.db i - room W.κ) },.fall a i)
 | .fall a i=>({ q with lv:=upd q.lv W.ia (q.lv W.ia - room W.κ) },.over 1 (.Yn a i))
 | .TV o a i=>({ q with dw:=upd q.dw a (W.hw 3) },.over o (.Yn a i))
 | .over o τ=>(q,.over o τ)
structure UI (t n k m κ a i : Nat) : Prop where
 ik : i < k
 ad : ∃ u,u + room κ <= m /\ a = base t n k m i + u
def Mv.good (t n k m σ : Nat) (W : Mw) (q : Q) : Mv -> Prop
 | .see τ f=>(τ = .see \/ ∃ a i,τ = .Yn a i /\ UI t n k m W.κ a i) /\ f <= 1000
 | .place v τ f=>τ.good k m W.κ σ /\ τ.over = false /\ Wd v /\ f <= 1000
 | .head v a i f=>UI t n k m W.κ a i /\ Wd v /\ f <= 1000
 | .mark v a i f=>UI t n k m W.κ a i /\ Wd v /\ f <= 1000
 | .load v a i j f=>UI t n k m W.κ a i /\ Wd v /\ j < W.Z /\ f <= 1000
 | .freeze v c a i j f=>UI t n k m W.κ a i /\ Wd v /\ Wd c /\ j < W.Z /\ f <= 1000
 | .copy v c a i j f=>UI t n k m W.κ a i /\ Wd v /\ Wd c /\ j < W.Z /\ f <= 1000
 | .shw v a i f=>UI t n k m W.κ a i /\ Wd v /\ f <= 1000
 | .ready a i=>UI t n k m W.κ a i
 | .grow a i=>UI t n k m W.κ a i /\ room W.κ <= q.db i
 | .fall a i=>UI t n k m W.κ a i /\ room W.κ <= q.lv W.ia
 | .TV _ a i=>UI t n k m W.κ a i
 | .over _ _=>True
def Mv.at (t n : Nat) (W : Mw) : Mv -> Nat
 | .see _ _=>6 + t + W.x * 2
 | .place _ τ _=>τ.at t n W.κ
 | .head _ a _ _=>a
 | .mark _ _ _ _=>6 + t + W.x * 2
 | .load _ _ _ j _=>W.A + 1 + j
 | .freeze _ _ _ _ j _=>W.A + 1 + j
 | .copy _ _ a _ j _=>a + 1 + j
 | .shw _ _ _ _=>6 + t + W.x * 2
 | .ready a _=>a
 | .grow _ i=>6 + t + n * 2 + i * 3 + 1
 | .fall _ _=>6 + t + n * 2 + W.ia * 3 + 1
 | .TV _ a _=>a
 | .over _ _=>0
theorem OG (v : Int) : Wd (VY v):=WC _ _ _ _
theorem IA (v : Int) (a : Nat) : Wd (WL v a):=WC _ _ _ _
theorem Mw.Bc (W : Mw) (kd : Int) : Wd (W.hw kd):=Gj _ _ _ _ _
theorem SQ {f : Nat -> Int} (h : ∀ a,Wd (f a)) (x : Nat) {v : Int} (hv : Wd v) : ∀ a,Wd (upd f x v a):=fun a=>by
 unfold upd
 split
 · exact hv
 · exact h a
theorem PI (q : Q) (v : Int) (f : Nat) (p : Y × Pl) : (UZ q v f p).1 = { q with y:=p.1 }:=by
 obtain ⟨y,τ⟩:=p
 cases τ <;> rfl
theorem GH {W : Mw} {k m : Nat} {bs : Nat -> Nat} {q : Q} {μ : Mv} {q' : Q} {μ' : Mv} (h : ∀ a,Wd (q.dw a)) (ht : Yo W k m bs q μ = (q',μ')) : ∀ a,Wd (q'.dw a):=by
 cases μ with
 | see τ f=>obtain ⟨rfl,-⟩:=Prod.mk.inj ht;exact h
 | place v τ f =>
  have e:=PI q v f (turn k m W.κ bs q.y τ)
  have ht' : UZ q v f (turn k m W.κ bs q.y τ) = (q',μ'):=ht
  rw [ht'] at e
  have e' : q' = _:=e
  rw [e'];exact h
 | head v a i f=>obtain ⟨rfl,-⟩:=Prod.mk.inj ht;exact SQ h _ (W.Bc _)
 | mark v a i f =>
  simp only [Yo] at ht
  split at ht <;> (obtain ⟨rfl,-⟩:=Prod.mk.inj ht;exact h)
 | load v a i j f=>obtain ⟨rfl,-⟩:=Prod.mk.inj ht;exact h
 | freeze v c a i j f =>
  simp only [Yo] at ht
  split at ht
  · obtain ⟨rfl,-⟩:=Prod.mk.inj ht;exact SQ h _ (QJ _ _)
  · obtain ⟨rfl,-⟩:=Prod.mk.inj ht;exact h
 | copy v c a i j f=>obtain ⟨rfl,-⟩:=Prod.mk.inj ht;exact SQ h _ (MS _ _ _)
 | shw v a i f =>
  simp only [Yo] at ht
  split at ht <;> (obtain ⟨rfl,-⟩:=Prod.mk.inj ht;exact h)
 | ready a i=>obtain ⟨rfl,-⟩:=Prod.mk.inj ht;exact SQ h _ (W.Bc _)
 | grow a i=>obtain ⟨rfl,-⟩:=Prod.mk.inj ht;exact h
 | fall a i=>obtain ⟨rfl,-⟩:=Prod.mk.inj ht;exact h
 | TV o a i=>obtain ⟨rfl,-⟩:=Prod.mk.inj ht;exact SQ h _ (W.Bc _)
 | over o τ=>obtain ⟨rfl,-⟩:=Prod.mk.inj ht;exact h
end
section
set_option maxRecDepth 20000
variable {w : World} {L : Loc} {s : Mm} {b o : Nat} {T : TypeId} {cs : Array Value} {t n k m : Nat} {g p r : Int} {a : MV}
def pq (A kd Z x G : Int) (own : Bool) (κ : Int) : MV:=⟨0,A,kd,Z,x,G,own,Y7 0 κ 0 0 0 0 0,0,0,0,0,0⟩
def wQ (A kd Z x G : Int) (own : Bool) (κ : Int) : Obj:=.cells #[iV 0,iV A,iV kd,iV Z,iV x,iV G,.bool own,iV 0,iV κ,.int .u64 0,iV 0,.int .u64 0,iV 0,iV 0,.int .u64 0,iV 0,.int .u64 0,iV 0,iV 0] 104
set_option maxHeartbeats 400000 in
theorem KD (A kd Z x G : Int) (own : Bool) (κ : Nat) (hκ : ZM Z = κ) (w : World) :
 Calls Tryz.prog 149 #[iV A,.agg #[iV kd,iV Z,iV x,iV G,.bool own]] w fun e w'=>∃ W,e = .returned (pP W.heap.size 0) /\ w' = W.alloc (wQ A kd Z x G own κ) /\ Below w.heap.size w W:=by
 have cl:=fun w=>YH Z w
 rw [hκ] at cl
 unfold wQ
 go_enter Tryz.func149,Tryz.ntmps149
 go_wp2
 refine ZY (fun W=>At W w.heap.size 0 42 _ [iV kd,iV Z,iV x,iV G,.bool own] /\ Below w.heap.size w W) ⟨At.new _ _ _,ZT _ _⟩ ?_
 rintro W ⟨x1,o1⟩
 refine Zx Grown 8 [.val (iV A),.val (.agg #[iV kd,iV Z,iV x,iV G,.bool own]),.val (pP w.heap.size 1),.val (iV Z),.val (iV κ),.that (fun w' v=>∃ X,v = (pP X 0) /\ At w' X 0 102 #[iV 0,iV κ,.int .u64 0,iV 0,.int .u64 0,iV 0,iV 0] [iV 0,iV κ,.int .u64 0,iV 0,.int .u64 0,iV 0,iV 0]) (fun _ _ _ hg h=>by obtain ⟨X,e,q⟩:=h;exact ⟨X,e,q.grown hg⟩),.that (fun w' v=>∃ X,v = (pP X 0) /\ At w' X 0 102 #[iV 0,iV κ,.int .u64 0,iV 0,.int .u64 0,iV 0,iV 0] [iV 0,iV κ,.int .u64 0,iV 0,.int .u64 0,iV 0,iV 0]) (fun _ _ _ hg h=>by obtain ⟨X,e,q⟩:=h;exact ⟨X,e,q.grown hg⟩),.val (.agg #[iV 0,iV κ,.int .u64 0,iV 0,.int .u64 0,iV 0,iV 0])] (by kernel_rfl) Grown.refl Grown.trans (by decide) (by kernel_rfl) (by kernel_rfl) (by kernel_rfl) (by kernel_rfl) (by kernel_rfl) (by kernel_rfl) ?_
 simp only [List.take_succ_cons,List.take_zero,ZE,Act.put,List.setIfInBounds_toArray,List.set_cons_zero,List.set_cons_succ]
 refine ⟨?_,⟨?_,⟨?_,⟨?_,⟨?_,⟨?_,fun _=>⟨?_,fun _=>⟨?_,?_⟩⟩⟩⟩⟩⟩⟩⟩
 · intros;apply ol;go_simp;exact gl
 · intro w' hg _;apply ol;have z0:=(x1.drew.grown hg).at0 0 rfl;have z1:=(x1.drew.grown hg).at0 1 rfl;have z2:=(x1.drew.grown hg).at0 2 rfl;have z3:=(x1.drew.grown hg).at0 3 rfl;have z4:=(x1.drew.grown hg).at0 4 rfl;go_simp;exact gl
 · intros;apply ol;go_simp;exact gl
 · intro w' hg _;apply ol;have z:=(x1.drew.grown hg).at0 1 rfl;go_simp;exact gl
 · intro w' hg _;apply ol;go_simp;exact cc (cl _)
 · intro w' hg _;apply ol;go_simp;refine (Ug κ _).mono ?_;rintro e w'' ⟨rfl,rfl⟩;obtain ⟨l,q,hl⟩:=Fv κ w';exact ⟨_,rfl,Z5 (Below.refl _ _) _,_,rfl,At.new w' _ _⟩
 · intro w' hg hf
   apply ol
   obtain ⟨X,rfl,q⟩:=hf.1 (by kernel_rfl)
   have z:=q.at0 0 rfl
   go_simp
   exact ⟨Grown.refl _,_,rfl,q⟩
 · intro w' hg hf
   apply ol
   obtain ⟨X,rfl,q⟩:=hf.1 (by kernel_rfl)
   have z0:=q.at0 0 rfl
   have z1:=q.at0 1 rfl
   have z2:=q.at0 2 rfl
   have z3:=q.at0 3 rfl
   have z4:=q.at0 4 rfl
   have z5:=q.at0 5 rfl
   have z6:=q.at0 6 rfl
   go_simp
   exact gl
 intro w5 hg _
 go_wp2
 go_ret
 exact ⟨w5,rfl,rfl,grow (o1.trans ((Below.refl _ _).drew)) hg⟩
theorem Td (hi : ZL w b o T cs a) (hnx : a.nx = 12) :
 Calls Tryz.prog 151 #[pP b o] w fun e w'=>e = .returned (iV a.ou) /\ w' = w:=by
 have k0:=hi.ZO
 rw [hnx] at k0
 have k1:=hi.BA
 go_enter Tryz.func151,Tryz.ntmps151
 go_wp2
 go_ret
 exact ⟨rfl,rfl⟩
theorem XE (hi : ZL w b o T cs a) {κ : Nat} {τ : Pl} (hp : τ.cells κ a.pl) {A i : Nat} {d : Bool} (ht : τ.told = (A,i,d)) :
 Calls Tryz.prog 198 #[pP b o] w fun e w'=>e = .returned (.bool d) /\ Below w.heap.size w w':=by
 go_enter Tryz.func198,Tryz.ntmps198
 go_wp2_with (go_at_call 119;refine (Ue (κ:=κ) (τ:=τ) ⟨_,hi.OZ,hp⟩ A i d ht).mono ?_;rintro e w1 ⟨rfl,b1⟩)
 go_ret
 exact ⟨rfl,Z5 b1 _⟩
theorem XU (hi : ZL w b o T cs a) {κ : Nat} {τ : Pl} (hp : τ.cells κ a.pl) {A i : Nat} {d : Bool} (ht : τ.told = (A,i,d)) :
 Calls Tryz.prog 199 #[pP b o] w fun e w'=>e = .returned (.agg #[iV A,iV i]) /\ Below w.heap.size w w':=by
 have i0:=hi.grown (ZT _ (.cells #[iV 0,iV 0] 100))
 have d0:=At.new w 100 [iV 0,iV 0]
 go_enter Tryz.func199,Tryz.ntmps199
 go_wp2_with (go_at_call 119;refine (Ue (κ:=κ) (τ:=τ) ⟨_,i0.OZ,hp⟩ A i d ht).mono ?_;rintro e w1 ⟨rfl,b1⟩;have d1:=(d0.grown b1).grown (ZT _ (.cells #[iV A,iV i] 100));have e1:=At.new w1 100 [iV A,iV i];have z0:=d1.at0 0 rfl;have z1:=d1.at0 1 rfl;have qf:=d1.fz;have y0:=e1.at0 0 rfl;have y1:=e1.at0 1 rfl)
 refine bodyPost_ret (v:=.agg #[iV A,iV i]) (by simp [results,Tryz.results199,go_sem,z0,z1]) rfl ⟨rfl,?_⟩
 exact ZF (ZF (grow (grow (ZT _ _) b1) (ZT _ _)) (Nat.le_refl _) _ _) (Nat.le_refl _) _ _
theorem YB {x : Nat} (hz : w.cell? ⟨b,o + 4,none⟩ = some (iV x)) (P : Nat) (who : Int) (hG : Good t n k m g p r) (hx : x < n) :
 Calls Tryz.prog 196 #[pP b o,eV t n k m g p r P who] w fun e w'=>e = .returned (iV (((6 + t + x * 2) : Nat) : Int)) /\ Below w.heap.size w w':=by
 have hs1:=hG.s1
 go_enter Tryz.func196,Tryz.ntmps196
 go_wp2
 refine ZY (fun W=>W.cell? ⟨b,o + 4,none⟩ = some (iV x) /\ ZV W w.heap.size t n k m g p r P who /\ Below w.heap.size w W) ⟨keep' (ZT _ _) hz,ZV.new,ZT _ _⟩ ?_
 rintro W ⟨i1,v1,o1⟩
 apply Xr;· kernel_rfl
 apply rV;· intros;apply ol;go_simp;exact gl
 apply rV;· intro w' hg _;apply ol;have y:=(v1.dg hg).yy;go_simp;exact gl
 iterate 4 (apply rV;· intros;apply ol;go_simp;exact gl)
 try simp only [pu,s0,s1]
 apply rV;· intro w' hg _;apply ol;have z:=keep' hg (keep' ((Below.refl _ _).drew) i1);go_simp;exact gl
 apply rV (c:=iV (((6 + t + x * 2) : Nat) : Int));· intro w' hg _;apply ol;go_simp;refine (YJ _ _ _ _ _ _ _ (x : Int) _ hG.arena (by omega) (by omega)).mono ?_;rintro e w'' ⟨rfl,b9⟩;exact ⟨_,rfl,b9,congrArg (Value.int .i64) (by omega)⟩
 apply Zb;· intros;apply ol;go_simp;exact gl
 try simp only [pu,s0,s1]
 intro w5 hg _
 go_wp2
 go_ret
 exact ⟨rfl,grow (o1.trans ((Below.refl _ _).drew)) hg⟩
structure XF (t n k m : Nat) (A Z : Int) (i : Int) : Prop where
 z1 : 1 <= Z
 z2 : Z <= 16
 a0 : 0 <= A
 a1 : A <= 1048575
 i0 : 0 <= i
 c1 : Y9 t n k m A = i
 c2 : Y9 t n k m (A + Z) = i
set_option maxHeartbeats 400000 in
theorem UQ (hi : ZL w b o T cs a) (hG : Good t n k m g p r) {i : Int} (hF : XF t n k m a.ad a.sz i) :
 Calls Tryz.prog 195 #[pP b o,.agg #[iV t,iV n,iV k,iV m,iV g,iV p,iV r]] w fun e w'=>e = .returned (.bool true) /\ Below w.heap.size w w':=by
 obtain ⟨z1,z2,a0,a1,hi0,hc1,hc2⟩:=hF
 have HI : Hid (i ≥ 0):=hi0
 have HA : Hid (0 <= a.ad /\ a.ad <= 1048575 /\ 1 <= a.sz /\ a.sz <= 16):=⟨a0,a1,z1,z2⟩
 have cl:=fun w=>YH a.sz w
 have hcl : (decide (ZM a.sz ≥ 0)) = true:=decide_eq_true (by
  unfold ZM
  rw [if_neg (by omega)]
  repeat' split
  all_goals omega)
 have IG:=fun w=>VG hG a.ad (by omega) w
 rw [hc1] at IG
 have sN:=fun w=>VG hG (a.ad + a.sz) (by omega) w
 rw [hc2] at sN
 have i0:=hi.grown (ZT _ (.cells #[iV t,iV n,iV k,iV m,iV g,iV p,iV r] 25))
 have k3:=i0.WN
 generalize hgc : ZM a.sz = C at cl hcl
 clear z1 z2 a0 a1 hi0 hc1 hc2 hgc
 go_enter Tryz.func195,Tryz.ntmps195
 go_wp2_with (go_at_call 36;refine (cl _).mono ?_;rintro e w1 ⟨rfl,rfl⟩)
 refine ZY (fun W=>ZL W b o T cs a /\ At W w.heap.size 0 25 _ [iV t,iV n,iV k,iV m,iV g,iV p,iV r] /\ Below w.heap.size w W) ⟨i0,At.new _ _ _,ZT _ _⟩ ?_
 clear k3 i0
 rintro W ⟨i1,c1,o1⟩
 apply Xr;· kernel_rfl
 apply rV;· intro w' hg _;apply ol;have z0:=(c1.drew.grown hg).at0 0 rfl;have z1:=(c1.drew.grown hg).at0 1 rfl;have z2:=(c1.drew.grown hg).at0 2 rfl;have z3:=(c1.drew.grown hg).at0 3 rfl;have z4:=(c1.drew.grown hg).at0 4 rfl;have z5:=(c1.drew.grown hg).at0 5 rfl;have z6:=(c1.drew.grown hg).at0 6 rfl;go_simp;exact gl
 iterate 3 (apply rV;· intros;apply ol;go_simp;exact gl)
 apply rV;· intro w' hg _;apply ol;have z0:=(i1.drew.grown hg).TI;go_simp;exact gl
 apply rV;· intro w' hg _;apply ol;go_simp;exact cb (IG _)
 try simp only [pu,s0,s1]
 apply Zb;· intros;apply ol;go_simp;exact gl
 try simp only [pu,s0,s1]
 intro w5 hg _
 have i5:=i1.drew.grown hg
 have c5:=c1.drew.grown hg
 have o5:=grow (o1.trans ((Below.refl _ _).drew)) hg
 clear hg i1 c1 o1
 go_wp2
 refine ZY (fun W=>ZL W b o T cs a /\ At W w.heap.size 0 25 _ [iV t,iV n,iV k,iV m,iV g,iV p,iV r] /\ Below w.heap.size w W) ⟨i5,c5,o5⟩ ?_
 clear i5 c5 o5
 rintro W ⟨i1,c1,o1⟩
 apply Xr;· kernel_rfl
 apply rV;· intros;apply ol;go_simp;exact gl
 apply rV (c:=.bool true)
 · intro w' hg _
   apply ol
   go_simp
   refine ⟨Grown.refl _,?_⟩
   first
    | rfl
    | (simp [Want.pred];done)
    | (simp [Want.pred];omega)
    | exact congrArg Value.bool (decide_eq_true HI.out)
 apply rV;· intros;apply ol;go_simp;exact gl
 apply rV;· intro w' hg _;apply ol;have z0:=(c1.drew.grown hg).at0 0 rfl;have z1:=(c1.drew.grown hg).at0 1 rfl;have z2:=(c1.drew.grown hg).at0 2 rfl;have z3:=(c1.drew.grown hg).at0 3 rfl;have z4:=(c1.drew.grown hg).at0 4 rfl;have z5:=(c1.drew.grown hg).at0 5 rfl;have z6:=(c1.drew.grown hg).at0 6 rfl;go_simp;exact gl
 iterate 2 (apply rV;· intros;apply ol;go_simp;exact gl)
 try simp only [pu,s0,s1]
 apply rV;· intros;apply ol;go_simp;exact gl
 apply rV;· intro w' hg _;apply ol;have z0:=(i1.drew.grown hg).TI;go_simp;exact gl
 apply rV;· intros;apply ol;go_simp;exact gl
 apply rV (c:=iV (a.ad + a.sz));· intro w' hg _;apply ol;go_simp;exact ⟨Grown.refl _,congrArg (Value.int .i64) (by rw [IntKind.wrap_i64];have:=HA.out;omega)⟩
 apply rV;· intro w' hg _;apply ol;go_simp;exact cb (sN _)
 apply rV;· intros;apply ol;go_simp;exact gl
 try simp only [pu,s0,s1]
 apply rV (c:=.bool true)
 · intro w' hg _
   apply ol
   go_simp
   refine ⟨Grown.refl _,?_⟩
   first
    | rfl
    | (simp [Want.pred];done)
    | (simp [Want.pred];omega)
    | exact congrArg Value.bool (by simp)
 apply rV;· intros;apply ol;go_simp;exact gl
 apply Zb;· intros;apply ol;go_simp;exact gl
 try simp only [pu,s0,s1]
 intro w5 hg _
 go_wp2
 go_ret
 exact ⟨rfl,grow (o1.trans ((Below.refl _ _).drew)) hg⟩
end
section
set_option maxHeartbeats 1000000
set_option maxRecDepth 20000
variable {w : World} {L : Loc} {s : Mm} {b o : Nat} {T : TypeId} {cs : Array Value} {t n k m : Nat} {g p r : Int} {a : MV}
theorem PS (h : Z9 w L s) (hi : ZL w b o T cs a) (who : Int) (hG : Good t n k m g p r) (hl : ZR t n k m <= s.n) {x : Nat} (hx : x < n) (hsl : a.sl = x) (hnx : a.nx = 0) :
 Calls Tryz.prog 180 #[pP b o,eV t n k m g p r L.p who] w fun e w'=>e = .returned (.bool true) /\ Below w.heap.size w w':=by
 have HX : Hid (a.sl = (x : Int)):=hsl
 have HN : Hid (a.nx = 0):=hnx
 clear hnx
 clear hsl
 go_enter Tryz.func180,Tryz.ntmps180
 go_wp2
 refine ZY (fun W=>Z9 W L s /\ ZL W b o T cs a /\ ZV W w.heap.size t n k m g p r L.p who /\ Below w.heap.size w W) ⟨h.alloc _,hi.grown (ZT _ _),ZV.new,ZT _ _⟩ ?_
 rintro W ⟨m1,i1,v1,o1⟩
 apply Xr;· kernel_rfl
 apply rV;· intros;apply ol;go_simp;exact gl
 apply rV;· intro w' hg _;apply ol;have y:=(v1.dg hg).yy;go_simp;exact gl
 apply rV;· intro w' hg _;apply ol;go_simp;exact cb (Xq hG _)
 iterate 2 (apply rV;· intros;apply ol;go_simp;exact gl)
 apply rV;· intro w' hg _;apply ol;have y:=(v1.dg hg).yy;go_simp;exact gl
 try simp only [pu,s0,s1]
 apply rV;· intro w' hg _;apply ol;go_simp;exact cc (len_any (m1.drew.below hg))
 apply rV;· intros;apply ol;go_simp;exact gl
 apply rV;· intro w' hg _;apply ol;have y:=(v1.dg hg).yy;go_simp;exact gl
 apply rV;· intro w' hg _;apply ol;go_simp;exact cb (WT hG _)
 apply rV;· intro w' hg _;apply ol;have z : decide ((s.n : Int) ≥ ((ZR t n k m : Nat) : Int)) = true:=decide_eq_true (by omega);go_simp;exact gl
 apply rV;· intros;apply ol;go_simp;exact gl
 try simp only [pu,s0,s1]
 iterate 5 (apply rV;· intros;apply ol;go_simp;exact gl)
 apply rV;· intro w' hg _;apply ol;have z0:=(i1.drew.grown hg).Xl;go_simp;exact gl
 try simp only [pu,s0,s1]
 apply rV;· intro w' hg _;apply ol;have z : decide (a.sl ≥ 0) = true:=decide_eq_true (by rw [HX.out];omega);go_simp;exact gl
 iterate 5 (apply rV;· intros;apply ol;go_simp;exact gl)
 try simp only [pu,s0,s1]
 apply rV;· intros;apply ol;go_simp;exact gl
 apply rV;· intro w' hg _;apply ol;have z0:=(i1.drew.grown hg).Xl;go_simp;exact gl
 iterate 2 (apply rV;· intros;apply ol;go_simp;exact gl)
 apply rV;· intro w' hg _;apply ol;have y:=(v1.dg hg).yy;go_simp;exact gl
 apply rV;· intro w' hg _;apply ol;have z : decide (a.sl < (n : Int)) = true:=decide_eq_true (by rw [HX.out];omega);go_simp;exact gl
 try simp only [pu,s0,s1]
 iterate 5 (apply rV;· intros;apply ol;go_simp;exact gl)
 apply rV;· intro w' hg _;apply ol;have z0:=(i1.drew.grown hg).ZO;go_simp;exact gl
 try simp only [pu,s0,s1]
 apply rV
 · intro w' hg _
   apply ol
   have z : (a.nx == 0) = true:=by rw [HN.out];rfl
   go_simp
   exact gl
 apply rV;· intros;apply ol;go_simp;exact gl
 iterate 4 (apply rV;· intros;exact ur)
 try simp only [pu,s0,s1]
 iterate 2 (apply rV;· intros;apply ol;go_simp;exact gl)
 apply Zb;· intros;apply ol;go_simp;exact gl
 try simp only [pu,s0,s1]
 intro w5 hg _
 go_wp2
 go_ret
 exact ⟨rfl,grow (o1.trans ((Below.refl _ _).drew)) hg⟩
theorem Y1 (h : Z9 w L s) (hi : ZL w b o T cs a) (who : Int) (hG : Good t n k m g p r) (hl : ZR t n k m <= s.n) {x : Nat} (hx : x < n) (hsl : a.sl = x) (hnx : (a.nx == 0) = false) {i : Int} (hF : XF t n k m a.ad a.sz i) :
 Calls Tryz.prog 180 #[pP b o,eV t n k m g p r L.p who] w fun e w'=>e = .returned (.bool true) /\ Below w.heap.size w w':=by
 have HX : Hid (a.sl = (x : Int)):=hsl
 have HN : Hid ((a.nx == 0) = false):=hnx
 clear hnx
 clear hsl
 go_enter Tryz.func180,Tryz.ntmps180
 go_wp2
 refine ZY (fun W=>Z9 W L s /\ ZL W b o T cs a /\ ZV W w.heap.size t n k m g p r L.p who /\ Below w.heap.size w W) ⟨h.alloc _,hi.grown (ZT _ _),ZV.new,ZT _ _⟩ ?_
 rintro W ⟨m1,i1,v1,o1⟩
 apply Xr;· kernel_rfl
 apply rV;· intros;apply ol;go_simp;exact gl
 apply rV;· intro w' hg _;apply ol;have y:=(v1.dg hg).yy;go_simp;exact gl
 apply rV;· intro w' hg _;apply ol;go_simp;exact cb (Xq hG _)
 iterate 2 (apply rV;· intros;apply ol;go_simp;exact gl)
 apply rV;· intro w' hg _;apply ol;have y:=(v1.dg hg).yy;go_simp;exact gl
 try simp only [pu,s0,s1]
 apply rV;· intro w' hg _;apply ol;go_simp;exact cc (len_any (m1.drew.below hg))
 apply rV;· intros;apply ol;go_simp;exact gl
 apply rV;· intro w' hg _;apply ol;have y:=(v1.dg hg).yy;go_simp;exact gl
 apply rV;· intro w' hg _;apply ol;go_simp;exact cb (WT hG _)
 apply rV;· intro w' hg _;apply ol;have z : decide ((s.n : Int) ≥ ((ZR t n k m : Nat) : Int)) = true:=decide_eq_true (by omega);go_simp;exact gl
 apply rV;· intros;apply ol;go_simp;exact gl
 try simp only [pu,s0,s1]
 iterate 5 (apply rV;· intros;apply ol;go_simp;exact gl)
 apply rV;· intro w' hg _;apply ol;have z0:=(i1.drew.grown hg).Xl;go_simp;exact gl
 try simp only [pu,s0,s1]
 apply rV;· intro w' hg _;apply ol;have z : decide (a.sl ≥ 0) = true:=decide_eq_true (by rw [HX.out];omega);go_simp;exact gl
 iterate 5 (apply rV;· intros;apply ol;go_simp;exact gl)
 try simp only [pu,s0,s1]
 apply rV;· intros;apply ol;go_simp;exact gl
 apply rV;· intro w' hg _;apply ol;have z0:=(i1.drew.grown hg).Xl;go_simp;exact gl
 iterate 2 (apply rV;· intros;apply ol;go_simp;exact gl)
 apply rV;· intro w' hg _;apply ol;have y:=(v1.dg hg).yy;go_simp;exact gl
 apply rV;· intro w' hg _;apply ol;have z : decide (a.sl < (n : Int)) = true:=decide_eq_true (by rw [HX.out];omega);go_simp;exact gl
 try simp only [pu,s0,s1]
 iterate 5 (apply rV;· intros;apply ol;go_simp;exact gl)
 apply rV;· intro w' hg _;apply ol;have z0:=(i1.drew.grown hg).ZO;go_simp;exact gl
 try simp only [pu,s0,s1]
 apply rV;· intro w' hg _;apply ol;have z : (a.nx == 0) = false:=HN.out;go_simp;exact gl
 iterate 3 (apply rV;· intros;apply ol;go_simp;exact gl)
 apply rV;· intro w' hg _;apply ol;have y:=(v1.dg hg).yy;go_simp;exact gl
 apply rV;· intro w' hg _;apply ol;go_simp;exact cb (UQ (i1.drew.grown hg) hG hF)
 try simp only [pu,s0,s1]
 iterate 2 (apply rV;· intros;apply ol;go_simp;exact gl)
 apply Zb;· intros;apply ol;go_simp;exact gl
 try simp only [pu,s0,s1]
 intro w5 hg _
 go_wp2
 go_ret
 exact ⟨rfl,grow (o1.trans ((Below.refl _ _).drew)) hg⟩
def TG (d : Bool) : Int:=if d then 11 else 12
theorem Wx (h : Z9 w L s) (hb : ¬ L.has b) (hi : ZL w b o T cs a) (ou : Int) {κ : Nat} {τ : Pl} (hp : τ.cells κ a.pl) {A i : Nat} {d : Bool} (ht : τ.told = (A,i,d)) :
 Calls Tryz.prog 197 #[pP b o,iV ou] w fun e w'=>e = .returned (.tuple #[]) /\ YV L b o T cs w w' (fun s' a'=>s' = s /\ a' = { a with ou:=ou,nx:=TG d }):=by
 have k8:=hi.BA
 have kf:=hi.fz
 have i2:=hi.Bz ou
 have k0 : (w.setCell ⟨b,o + 18,none⟩ (iV ou)).cell? ⟨b,o,none⟩ = some (iV a.nx):=i2.ZO
 have kV:=i2.fz
 have i3:=i2.ZJ 12
 have m3:=(h.Z4 hb (o + 18) (iV ou)).Z4 hb o (iV 12)
 have o3:=((Only.refl (L.and b) w).set (o + 18) (iV ou)).set o (iV 12)
 cases d
 · show Calls _ _ _ _ fun e w'=>e = .returned (.tuple #[]) /\ YV L b o T cs w w' (fun s' a'=>s' = s /\ a' = { a with ou:=ou,nx:=12 })
   go_enter Tryz.func197,Tryz.ntmps197
   go_wp2_with (go_at_call 198;refine (XE (κ:=κ) (τ:=τ) i3 hp ht).mono ?_;rintro e w1 ⟨rfl,b1⟩)
   go_end0
   exact ⟨rfl,_,_,_,m3.below b1,o3.trans (Only.ZZ b1),i3.grown b1,(Same.refl.set (by omega) _).set (by omega) _,rfl,rfl⟩
 · show Calls _ _ _ _ fun e w'=>e = .returned (.tuple #[]) /\ YV L b o T cs w w' (fun s' a'=>s' = s /\ a' = { a with ou:=ou,nx:=11 })
   go_enter Tryz.func197,Tryz.ntmps197
   go_wp2_with (go_at_call 198;refine (XE (κ:=κ) (τ:=τ) i3 hp ht).mono ?_;rintro e w1 ⟨rfl,b1⟩;have i4:=i3.grown b1;have k4:=i4.ZO;have kU:=i4.fz)
   go_end0
   exact ⟨rfl,_,_,_,(m3.below b1).Z4 hb _ _,(o3.trans (Only.ZZ b1)).set _ _,i4.ZJ 11,((Same.refl.set (by omega) _).set (by omega) _).set (by omega) _,rfl,rfl⟩
set_option maxHeartbeats 400000 in
theorem Qw (h : Z9 w L s) (who : Int) (hG : Good t n k m g p r) {i : Nat} (hi : i < k) (hn : (6 + t + n * 2 + i * 3 + 1) < s.n) (d : Int) :
 Calls Tryz.prog 200 #[eV t n k m g p r L.p who,iV i,iV d] w fun e w'=>e = .returned (.tuple #[]) /\ Z9 w' L ((s.by who).step (6 + t + n * 2 + i * 3 + 1) (sum64 (s.wd (6 + t + n * 2 + i * 3 + 1)) (Ym d))) /\ Only L.has w w':=by
 have hk1:=hG.k1
 have hl:=h.len
 go_enter Tryz.func200,Tryz.ntmps200
 go_wp2
 refine ZY (fun W=>Z9 W L s /\ ZV W w.heap.size t n k m g p r L.p who /\ Only L.has w W) ⟨h.alloc _,ZV.new,(Only.refl _ _).alloc _⟩ ?_
 rintro W ⟨m1,v1,o1⟩
 apply Yc 7;· kernel_rfl
 apply rV;· intro w' hg _;apply ol;have y:=(v1.dg hg).yy;go_simp;exact gl
 apply rV;· intros;apply ol;go_simp;exact gl
 apply rV;· intro w' hg _;apply ol;have y:=(v1.dg hg).yy;go_simp;exact gl
 apply rV;· intros;apply ol;go_simp;exact gl
 apply rV (c:=iV (((6 + t + n * 2 + i * 3) : Nat) : Int));· intro w' hg _;apply ol;go_simp;refine (Y8 _ _ _ _ _ _ _ (i : Int) _ hG.arena (by omega) (by omega)).mono ?_;rintro e w'' ⟨rfl,b9⟩;exact ⟨_,rfl,b9,congrArg (Value.int .i64) (by omega)⟩
 apply rV (c:=iV ((((6 + t + n * 2 + i * 3 + 1) : Nat) : Int)));· intro w' hg _;apply ol;go_simp;exact ⟨Grown.refl _,congrArg (Value.int .i64) (by rw [IntKind.wrap_i64];omega)⟩
 try simp only [pu,s0,s1]
 apply Zb;· intros;apply ol;go_simp;exact gl
 try simp only [pu,s0,s1]
 intro w5 hg _
 have m5:=m1.drew.below hg
 go_wp2_with (go_at_call 121;refine (Ry m5 _ _ _ _ _ _ _ _ (6 + t + n * 2 + i * 3 + 1) hn d).mono ?_;rintro e w6 ⟨rfl,m6,o6⟩)
 go_end0
 exact ⟨rfl,m6,(o1.drew.trans (Only.ZZ hg)).trans o6⟩
theorem Pm (a1 a2 : Value) (w : World) : (Instr.field 100 (.agg #[a1,a2]) 0).run Tryz.prog w = .ok a1 w:=by kernel_rfl
theorem rY (a1 a2 : Value) (w : World) : (Instr.field 100 (.agg #[a1,a2]) 1).run Tryz.prog w = .ok a2 w:=by kernel_rfl
theorem Vz (h : Z9 w L s) (hi : ZL w b o T cs a) (who : Int) {kd : Int} (fk : Fit kd) (fz : Fit a.sz) (fs : Fit a.sl) (fg : Fit a.gn) {κ : Nat} {τ : Pl} (hp : τ.cells κ a.pl) {A i : Nat} {d : Bool} (ht : τ.told = (A,i,d)) (hn : A < s.n) :
 Calls Tryz.prog 184 #[pP b o,eV t n k m g p r L.p who,iV kd] w fun e w'=>e = .returned (.tuple #[]) /\ Z9 w' L ((s.by who).step A (Zg kd a.sz a.sl a.gn a.own)) /\ Only L.has w w':=by
 have ff:=Pm
 have ph:=fun w=>Su kd a.sz a.sl a.gn a.own w fk fz fs fg
 have i0:=hi.grown (ZT _ (eO t n k m g p r L.p who))
 have k2:=i0.Af
 have k3:=i0.WN
 have k4:=i0.Xl
 have k5:=i0.Tu
 have k6:=i0.Rj
 have q0:=At.new (w.alloc (eO t n k m g p r L.p who)) 42 [iV a.kd,iV a.sz,iV a.sl,iV a.gn,.bool a.own]
 have z0:=q0.at0 0 rfl
 have qf:=q0.fz
 clear fk fz fs fg
 go_enter Tryz.func184,Tryz.ntmps184
 go_wp2
 obtain ⟨S,hS⟩ : ∃ S,(w.alloc (eO t n k m g p r L.p who)).heap.size = S:=⟨_,rfl⟩
 have q2:=At.new (w.alloc (eO t n k m g p r L.p who)) 42 [iV kd,iV a.sz,iV a.sl,iV a.gn,.bool a.own]
 rw [hS] at q2
 have hS' : w.heap.size + 1 = S:=by rw [<- hS,Go.Deep.nblk_alloc]
 try rw [hS']
 refine ZY (fun W=>Z9 W L s /\ ZL W b o T cs a /\ ZV W w.heap.size t n k m g p r L.p who /\ At W S 0 42 _ [iV kd,iV a.sz,iV a.sl,iV a.gn,.bool a.own] /\ Only L.has w W) ⟨(h.alloc _).alloc _,i0.grown (ZT _ _),ZV.WX _,q2,((Only.refl _ _).alloc _).alloc _⟩ ?_
 clear q0 z0 qf q2 k2 k3 k4 k5 k6 i0
 rintro W ⟨m1,i1,v1,q1,o1⟩
 apply Yc 6;· kernel_rfl
 apply rV;· intro w' hg _;apply ol;have y:=(v1.dg hg).yy;go_simp;exact gl
 apply rV;· intros;apply ol;go_simp;exact gl
 apply rV;· intro w' hg _;apply ol;go_simp;exact cb (XU (i1.drew.grown hg) hp ht)
 apply rV;· intros;apply ol;go_simp;exact gl
 apply rV;· intro w' hg _;apply ol;have z0:=(q1.drew.grown hg).at0 0 rfl;have z1:=(q1.drew.grown hg).at0 1 rfl;have z2:=(q1.drew.grown hg).at0 2 rfl;have z3:=(q1.drew.grown hg).at0 3 rfl;have z4:=(q1.drew.grown hg).at0 4 rfl;go_simp;exact gl
 apply Zb;· intro w' hg _;apply ol;go_simp;exact cb (ph _)
 try simp only [pu,s0,s1]
 intro w5 hg _
 have m5:=m1.drew.below hg
 go_wp2_with (go_at_call 55;refine (Yr m5 _ _ _ _ _ _ _ _ A hn _).mono ?_;rintro e w6 ⟨rfl,m6,o6⟩)
 go_end0
 exact ⟨rfl,m6,(o1.drew.trans (Only.ZZ hg)).trans o6⟩
theorem yB (h : Z9 w L s) (hb : ¬ L.has b) (hi : ZL w b o T cs a) (who : Int) {σ κ : Nat} {y y' : Y} {τ τ' : Pl} (hy : Yg t n k m s σ y) (hG : Good t n k m g p r) (hσ : σ < 1000000) (hκ : κ < 4) (hp : τ.cells κ a.pl) (hg : τ.good k m κ σ) (ho : τ.over = false) (ht : turn k m κ (base t n k m) y τ = (y',τ')) (hv : τ'.over = false) :
 Calls Tryz.prog 183 #[pP b o,eV t n k m g p r L.p who] w fun e w'=>e = .returned (.tuple #[]) /\ YV L b o T cs w w' (fun s' a'=>∃ l,a' = { a with pl:=l } /\ τ'.cells κ l /\ Yg t n k m s' (σ + 1) y' /\ τ'.good k m κ (σ + 1) /\ ∃ v,s' = (s.by who).step (τ.at t n κ) v):=by
 have HY : Hid (Yg t n k m s σ y):=hy
 have HG : Hid (Good t n k m g p r):=hG
 have HP : Hid (τ.cells κ a.pl):=hp
 have HD : Hid (τ.good k m κ σ):=hg
 have HO : Hid (τ.over = false):=ho
 have HT : Hid (turn k m κ (base t n k m) y τ = (y',τ')):=ht
 clear hy hG hp hg ho ht
 obtain ⟨hbv,hbb⟩:=nb h hi.lt
 go_enter Tryz.func183,Tryz.ntmps183
 go_wp2
 refine wo b h (fun _ g=>hi.grown g) ?_
 rintro W ⟨m1,i1,v1,o1⟩
 apply Yc 4;· kernel_rfl
 iterate 3 (apply rV;· intros;apply ol;go_simp;exact gl)
 apply Zb;· intro w' hg _;apply ol;have y:=(v1.dg hg).yy;go_simp;exact gl
 try simp only [pu,s0,s1]
 intro w5 hg _
 have m5:=m1.drew.below hg
 have i5:=i1.drew.grown hg
 have o5:=o1.og hg
 clear hg m1 i1 v1 o1
 go_wp2_with (first
  | (go_at_call 118;refine (Xw m5 hb HY.out HG.out hσ hκ τ ⟨_,i5.OZ,HP.out⟩ HD.out HO.out who y' τ' HT.out false hv).mono ?_;rintro e w6 ⟨rfl,s6,XD,P6⟩;obtain ⟨l6,rX,Bv⟩:=P6.a;have i6:=i5.VN rX (Pl.Zq Bv) P6.same;have k6:=i6.ZO;have f6:=i6.fz))
 refine bodyPost_ret (results_none rfl _ _ _) rfl ?_
 exact ⟨rfl,_,_,_,P6.mm,o5.trans P6.only,i6,(P6.same.wide (by omega) (by omega)),l6,rfl,Bv,P6.yd,P6.good,P6.st⟩
theorem Bq (h : Z9 w L s) (hb : ¬ L.has b) (hi : ZL w b o T cs a) (who : Int) {σ κ : Nat} {y y' : Y} {τ τ' : Pl} (hy : Yg t n k m s σ y) (hG : Good t n k m g p r) (hσ : σ < 1000000) (hκ : κ < 4) (hp : τ.cells κ a.pl) (hg : τ.good k m κ σ) (ho : τ.over = false) (ht : turn k m κ (base t n k m) y τ = (y',τ')) (hv : τ'.over = true) {A i : Nat} (hw : τ' = .Yn A i) :
 Calls Tryz.prog 183 #[pP b o,eV t n k m g p r L.p who] w fun e w'=>e = .returned (.tuple #[]) /\ YV L b o T cs w w' (fun s' a'=>∃ l,a' = { a with pl:=l,nx:=2 } /\ τ'.cells κ l /\ Yg t n k m s' (σ + 1) y' /\ τ'.good k m κ (σ + 1) /\ ∃ v,s' = (s.by who).step (τ.at t n κ) v):=by
 have HY : Hid (Yg t n k m s σ y):=hy
 have HG : Hid (Good t n k m g p r):=hG
 have HP : Hid (τ.cells κ a.pl):=hp
 have HD : Hid (τ.good k m κ σ):=hg
 have HO : Hid (τ.over = false):=ho
 have HT : Hid (turn k m κ (base t n k m) y τ = (y',τ')):=ht
 clear hy hG hp hg ho ht
 obtain ⟨hbv,hbb⟩:=nb h hi.lt
 go_enter Tryz.func183,Tryz.ntmps183
 go_wp2
 refine wo b h (fun _ g=>hi.grown g) ?_
 rintro W ⟨m1,i1,v1,o1⟩
 apply Yc 4;· kernel_rfl
 iterate 3 (apply rV;· intros;apply ol;go_simp;exact gl)
 apply Zb;· intro w' hg _;apply ol;have y:=(v1.dg hg).yy;go_simp;exact gl
 try simp only [pu,s0,s1]
 intro w5 hg _
 have m5:=m1.drew.below hg
 have i5:=i1.drew.grown hg
 have o5:=o1.og hg
 clear hg m1 i1 v1 o1
 go_wp2_with (first
  | (go_at_call 118;refine (Xw m5 hb HY.out HG.out hσ hκ τ ⟨_,i5.OZ,HP.out⟩ HD.out HO.out who y' τ' HT.out true hv).mono ?_;rintro e w6 ⟨rfl,s6,XD,P6⟩;obtain ⟨l6,rX,Bv⟩:=P6.a;have i6:=i5.VN rX (Pl.Zq Bv) P6.same;have k6:=i6.ZO;have f6:=i6.fz)
  | (go_at_call 198;refine (XE (κ:=κ) (τ:=τ') (A:=A) (i:=i) (d:=true) i6 Bv (by rw [hw];rfl)).mono ?_;rintro e w7 ⟨rfl,b7⟩;have i7:=i6.grown b7;have k7:=i7.ZO;have f7:=i7.fz))
 go_end0
 exact ⟨rfl,_,_,_,(P6.mm.below b7).Z4 hb _ _,((o5.trans P6.only).trans (Only.ZZ b7)).set _ _,i7.ZJ 2,(P6.same.wide (by omega) (by omega)).set (by omega) _,l6,rfl,Bv,P6.yd,P6.good,P6.st⟩
theorem FH (h : Z9 w L s) (hb : ¬ L.has b) (hi : ZL w b o T cs a) (who : Int) {σ κ : Nat} {y y' : Y} {τ τ' : Pl} (hy : Yg t n k m s σ y) (hG : Good t n k m g p r) (hσ : σ < 1000000) (hκ : κ < 4) (hp : τ.cells κ a.pl) (hg : τ.good k m κ σ) (ho : τ.over = false) (ht : turn k m κ (base t n k m) y τ = (y',τ')) (hv : τ'.over = true) (hw : τ' = .none) :
 Calls Tryz.prog 183 #[pP b o,eV t n k m g p r L.p who] w fun e w'=>e = .returned (.tuple #[]) /\ YV L b o T cs w w' (fun s' a'=>∃ l,a' = { a with pl:=l,ou:=4,nx:=12 } /\ τ'.cells κ l /\ Yg t n k m s' (σ + 1) y' /\ τ'.good k m κ (σ + 1) /\ ∃ v,s' = (s.by who).step (τ.at t n κ) v):=by
 have HY : Hid (Yg t n k m s σ y):=hy
 have HG : Hid (Good t n k m g p r):=hG
 have HP : Hid (τ.cells κ a.pl):=hp
 have HD : Hid (τ.good k m κ σ):=hg
 have HO : Hid (τ.over = false):=ho
 have HT : Hid (turn k m κ (base t n k m) y τ = (y',τ')):=ht
 clear hy hG hp hg ho ht
 obtain ⟨hbv,hbb⟩:=nb h hi.lt
 go_enter Tryz.func183,Tryz.ntmps183
 go_wp2
 refine wo b h (fun _ g=>hi.grown g) ?_
 rintro W ⟨m1,i1,v1,o1⟩
 apply Yc 4;· kernel_rfl
 iterate 3 (apply rV;· intros;apply ol;go_simp;exact gl)
 apply Zb;· intro w' hg _;apply ol;have y:=(v1.dg hg).yy;go_simp;exact gl
 try simp only [pu,s0,s1]
 intro w5 hg _
 have m5:=m1.drew.below hg
 have i5:=i1.drew.grown hg
 have o5:=o1.og hg
 clear hg m1 i1 v1 o1
 go_wp2_with (first
  | (go_at_call 118;refine (Xw m5 hb HY.out HG.out hσ hκ τ ⟨_,i5.OZ,HP.out⟩ HD.out HO.out who y' τ' HT.out true hv).mono ?_;rintro e w6 ⟨rfl,s6,XD,P6⟩;obtain ⟨l6,rX,Bv⟩:=P6.a;have i6:=i5.VN rX (Pl.Zq Bv) P6.same;have k6:=i6.ZO;have f6:=i6.fz)
  | (go_at_call 198;refine (XE (κ:=κ) (τ:=τ') (A:=0) (i:=0) (d:=false) i6 Bv (by rw [hw];rfl)).mono ?_;rintro e w7 ⟨rfl,b7⟩;have i7:=i6.grown b7)
  | (go_at_call 197;refine (Wx (κ:=κ) (τ:=τ') (A:=0) (i:=0) (d:=false) (P6.mm.below b7) hb i7 4 Bv (by rw [hw];rfl)).mono ?_;rintro e w8 ⟨rfl,s8,EG,a8,m8,o8,i8,q8,rfl,rfl⟩))
 refine bodyPost_ret (results_none rfl _ _ _) rfl ?_
 exact ⟨rfl,_,_,_,m8,((o5.trans P6.only).trans (Only.ZZ b7)).trans o8,i8,(P6.same.wide (by omega) (by omega)).trans q8,l6,rfl,Bv,P6.yd,P6.good,P6.st⟩
end
section
set_option maxHeartbeats 1000000
set_option maxRecDepth 20000
variable {w : World} {L : Loc} {s : Mm} {b o : Nat} {T : TypeId} {cs : Array Value} {t n k m : Nat} {g p r : Int} {a : MV}
theorem Fh (h : Z9 w L s) (hb : ¬ L.has b) (hi : ZL w b o T cs a) (who : Int) (hG : Good t n k m g p r) {x : Nat} (hx : x < n) (hsl : a.sl = x) (hn : (6 + t + x * 2) < s.n) {v st : Int} {A : Nat} {Gs V : Int} (hv : s.wd (6 + t + x * 2) = v) (hs : Y6 v st A Gs V) {κ : Nat} {τ : Pl} (hp : τ.cells κ a.pl) {B i : Nat} {d : Bool} (ht : τ.told = (B,i,d)) (hgn : (Gs == a.gn) = false) :
 Calls Tryz.prog 182 #[pP b o,eV t n k m g p r L.p who] w fun e w'=>e = .returned (.tuple #[]) /\ YV L b o T cs w w' (fun s' a'=>s' = ((s.by who).step (6 + t + x * 2) (s.wd (6 + t + x * 2))) /\ a' = { a with se:=v,ou:=2,nx:=TG d }):=by
 have HU : Hid (s.wd (6 + t + x * 2) = v):=hv
 have HX : Hid (a.sl = (x : Int)):=hsl
 have sw:=hs.call
 have MC : Hid (τ.cells κ a.pl):=hp
 have MB : Hid (τ.told = (B,i,d)):=ht
 have Fg : Hid ((Gs == a.gn) = false):=hgn
 clear hgn
 clear hv hs hsl hp ht
 obtain ⟨hbv,hbb⟩:=nb h hi.lt
 go_enter Tryz.func182,Tryz.ntmps182
 go_wp2
 refine wo b h (fun _ g=>hi.grown g) ?_
 rintro W ⟨m1,i1,v1,o1⟩
 refine YZ (ZX L b (o + 14)) Grown (Rz L b o T cs (cs.setIfInBounds (o + 14) (.int .u64 v)) s ((s.by who).step (6 + t + x * 2) (s.wd (6 + t + x * 2))) a { a with se:=v }) [5,8] [.val (pP b o),.val (eV t n k m g p r L.p who),.val (pP b o),.val (eV t n k m g p r L.p who),.val (iV (((6 + t + x * 2) : Nat) : Int)),.val (.int .u64 v),.val (pP b o),.val (pP b (o + 14)),.that (fun _ _=>True) (fun _ _ _ _ _=>trivial)]
  (by kernel_rfl) ZX.refl ZX.trans ZX.ZZ Yv ⟨m1.drew,i1.drew⟩ (by kernel_rfl) (by kernel_rfl) (by kernel_rfl) (by kernel_rfl) (by kernel_rfl) ?_
 simp only [Zn,Act.put,List.setIfInBounds_toArray,List.set_cons_zero,List.set_cons_succ]
 refine ⟨?_,?_,?_,?_,?_,?_,?_,?_,?_,?_⟩
 · intros;apply ol;go_simp;exact gl
 · intro w' hR _;apply ol;have y:=(v1.dn hR.only hbv hbb).yy;go_simp;exact gl
 · intros;apply ol;go_simp;exact gl
 · intro w' hR _;apply ol;have y:=(v1.dn hR.only hbv hbb).yy;go_simp;exact gl
 · intro w' hR _;apply ol;go_simp;exact cb (YB (hR.keep (j:=o + 4) (by omega) (by have z:=i1.drew.Xl;rwa [HX.out] at z)) L.p who hG hx)
 · intro w' hR _ hP;apply ol;go_simp;refine (ZK (s:=s) hP.1 _ _ _ _ _ _ _ _ (6 + t + x * 2) hn).mono ?_;rintro e w'' ⟨rfl,m2,o2⟩;exact ⟨_,rfl,⟨ZX.Zj o2 hb,m2,hP.2.only o2 hb⟩,by simp [Want.pred,HU.out]⟩
 · intros;apply ol;go_simp;exact gl
 · intros;apply ol;go_simp;exact gl
 · intro w' hR _ hP;apply ol;have z0:=hP.2.Yw;have z1:=hP.2.fz;go_simp;exact ⟨⟨ZX.set _ _,hP.1.Z4 hb _ _,hP.2.WE _⟩,trivial⟩
 intro vv w2 hR hP _
 obtain ⟨m2,i2⟩ : Z9 w2 L ((s.by who).step (6 + t + x * 2) (s.wd (6 + t + x * 2))) /\ ZL w2 b o T (cs.setIfInBounds (o + 14) (.int .u64 v)) { a with se:=v }:=hP
 have o2 : Only (L.and b) w w2:=o1.drew.trans hR.only
 have v2:=v1.dn hR.only hbv hbb
 have k2 : w2.cell? ⟨b,o + 14,none⟩ = some (.int .u64 v):=i2.Yw
 clear hR o1 v1 m1 i1
 go_wp2_with (go_at_call 47;refine (sw _).mono ?_;rintro e w3 ⟨rfl,b3⟩)
 have q0:=At.new w3 94 [iV st,iV A,iV Gs,iV V]
 obtain ⟨S,hS⟩ : ∃ S,w3.heap.size = S:=⟨_,rfl⟩
 have bS : S ≠ b:=by have:=i2.lt;have:=b3.size;omega
 rw [hS] at q0 ⊢
 obtain ⟨cs1,hcs1⟩ : ∃ c,cs.setIfInBounds (o + 14) (.int .u64 v) = c:=⟨_,rfl⟩
 have s1 : Same o 19 cs cs1:=by rw [<- hcs1];exact Same.refl.set (by omega) _
 obtain ⟨a1,ha1⟩ : ∃ x : MV,{ a with se:=v } = x:=⟨_,rfl⟩
 have e1 : Hid (a1.gn = a.gn /\ a1.ad = a.ad /\ a1.sz = a.sz /\ a1.pl = a.pl):=by unfold Hid;rw [<- ha1];exact ⟨rfl,rfl,rfl,rfl⟩
 have Ff : Hid ((Gs == a1.gn) = false):=by unfold Hid;rw [e1.out.1];exact Fg.out
 rw [hcs1,ha1] at i2
 refine ZY (fun W=>Z9 W L ((s.by who).step (6 + t + x * 2) (s.wd (6 + t + x * 2))) /\ ZL W b o T cs1 a1 /\ ZV W w.heap.size t n k m g p r L.p who /\ At W S 0 94 _ [iV st,iV A,iV Gs,iV V] /\ Only (L.and b) w W) ⟨(m2.below b3).alloc _,(i2.grown b3).grown (ZT _ _),(v2.grown b3).grown (ZT _ _),q0,(o2.trans (Only.ZZ b3)).alloc _⟩ ?_
 clear b3 sw q0 hS m2 i2 v2 o2 k2
 rintro W ⟨m1,i1,v1,q1,o1⟩
 refine Zu Grown [.val (pP S 2),.val (iV Gs),.val (pP b o),.val (pP b o),.val (pP b (o + 2)),.val (pP b (o + 5)),.val (iV a1.gn),.val (.bool false),.val (.bool false),.val undef,.val undef,.val undef,.val undef,.val undef,.val undef,.val undef,.val (.bool false),.val (.bool false)] (by kernel_rfl) Grown.refl Grown.trans (by kernel_rfl) (by kernel_rfl) (by kernel_rfl) ?_
 simp only [ZE,Act.put,List.setIfInBounds_toArray,List.set_cons_zero,List.set_cons_succ]
 refine ⟨?_,?_,?_,?_,?_,?_,?_,?_,?_,?_,?_,?_,?_,?_,?_,?_,?_,?_,?_⟩
 · intros;apply ol;go_simp;exact gl
 · intro w' hg _;apply ol;have z0:=(q1.drew.grown hg).at0 2 rfl;go_simp;exact gl
 · intros;apply ol;go_simp;exact gl
 · intros;apply ol;go_simp;exact gl
 · intros;apply ol;go_simp;exact gl
 · intros;apply ol;go_simp;exact gl
 · intro w' hg _;apply ol;have z0:=(i1.drew.grown hg).Tu;go_simp;exact gl
 · intro w' hg _;apply ol;have z : (Gs == a1.gn) = false:=Ff.out;go_simp;exact gl
 · intros;apply ol;go_simp;exact gl
 · intros;exact ur
 · intros;exact ur
 · intros;exact ur
 · intros;exact ur
 · intros;exact ur
 · intros;exact ur
 · intros;exact ur
 · intros;apply ol;go_simp;exact gl
 · intros;apply ol;go_simp;exact gl
 intro w5 hg _
 have m5:=m1.drew.below hg
 have i5:=i1.drew.grown hg
 have v5:=v1.dg hg
 have q5:=q1.drew.grown hg
 have o5:=o1.og hg
 clear hg m1 i1 v1 q1 o1
 have z0:=q5.at0 0 rfl
 have z3:=q5.at0 3 rfl
 have k0:=i5.ZO
 have kf:=i5.fz
 obtain ⟨y0,y1,y2,y3,y4,y5,y6,y7,y8⟩:=id v5
 go_wp2_with (first
  | (go_at_call 197;refine (Wx (κ:=κ) (τ:=τ) (A:=B) (i:=i) (d:=d) m5 hb i5 2 (by rw [e1.out.2.2.2];exact MC.out) MB.out).mono ?_;rintro e w8 ⟨rfl,s8,EG,a8,m8,o8,i8,q8,rfl,rfl⟩))
 go_end0
 exact ⟨rfl,_,_,_,m8,o5.trans o8,i8,s1.trans q8,rfl,by rw [<- ha1]⟩
theorem Fe (h : Z9 w L s) (hb : ¬ L.has b) (hi : ZL w b o T cs a) (who : Int) (hG : Good t n k m g p r) {x : Nat} (hx : x < n) (hsl : a.sl = x) (hn : (6 + t + x * 2) < s.n) {v st : Int} {A : Nat} {Gs V : Int} (hv : s.wd (6 + t + x * 2) = v) (hs : Y6 v st A Gs V) {κ : Nat} {τ : Pl} (hp : τ.cells κ a.pl) {B i : Nat} {d : Bool} (ht : τ.told = (B,i,d)) (hgn : (Gs == a.gn) = true) (had : ((A : Int) == a.ad) = false) :
 Calls Tryz.prog 182 #[pP b o,eV t n k m g p r L.p who] w fun e w'=>e = .returned (.tuple #[]) /\ YV L b o T cs w w' (fun s' a'=>s' = ((s.by who).step (6 + t + x * 2) (s.wd (6 + t + x * 2))) /\ a' = { a with se:=v,ou:=2,nx:=TG d }):=by
 have HU : Hid (s.wd (6 + t + x * 2) = v):=hv
 have HX : Hid (a.sl = (x : Int)):=hsl
 have sw:=hs.call
 have MC : Hid (τ.cells κ a.pl):=hp
 have MB : Hid (τ.told = (B,i,d)):=ht
 have Fg : Hid ((Gs == a.gn) = true):=hgn
 clear hgn
 have Bl : Hid (((A : Int) == a.ad) = false):=had
 clear had
 clear hv hs hsl hp ht
 obtain ⟨hbv,hbb⟩:=nb h hi.lt
 go_enter Tryz.func182,Tryz.ntmps182
 go_wp2
 refine wo b h (fun _ g=>hi.grown g) ?_
 rintro W ⟨m1,i1,v1,o1⟩
 refine YZ (ZX L b (o + 14)) Grown (Rz L b o T cs (cs.setIfInBounds (o + 14) (.int .u64 v)) s ((s.by who).step (6 + t + x * 2) (s.wd (6 + t + x * 2))) a { a with se:=v }) [5,8] [.val (pP b o),.val (eV t n k m g p r L.p who),.val (pP b o),.val (eV t n k m g p r L.p who),.val (iV (((6 + t + x * 2) : Nat) : Int)),.val (.int .u64 v),.val (pP b o),.val (pP b (o + 14)),.that (fun _ _=>True) (fun _ _ _ _ _=>trivial)]
  (by kernel_rfl) ZX.refl ZX.trans ZX.ZZ Yv ⟨m1.drew,i1.drew⟩ (by kernel_rfl) (by kernel_rfl) (by kernel_rfl) (by kernel_rfl) (by kernel_rfl) ?_
 simp only [Zn,Act.put,List.setIfInBounds_toArray,List.set_cons_zero,List.set_cons_succ]
 refine ⟨?_,?_,?_,?_,?_,?_,?_,?_,?_,?_⟩
 · intros;apply ol;go_simp;exact gl
 · intro w' hR _;apply ol;have y:=(v1.dn hR.only hbv hbb).yy;go_simp;exact gl
 · intros;apply ol;go_simp;exact gl
 · intro w' hR _;apply ol;have y:=(v1.dn hR.only hbv hbb).yy;go_simp;exact gl
 · intro w' hR _;apply ol;go_simp;exact cb (YB (hR.keep (j:=o + 4) (by omega) (by have z:=i1.drew.Xl;rwa [HX.out] at z)) L.p who hG hx)
 · intro w' hR _ hP;apply ol;go_simp;refine (ZK (s:=s) hP.1 _ _ _ _ _ _ _ _ (6 + t + x * 2) hn).mono ?_;rintro e w'' ⟨rfl,m2,o2⟩;exact ⟨_,rfl,⟨ZX.Zj o2 hb,m2,hP.2.only o2 hb⟩,by simp [Want.pred,HU.out]⟩
 · intros;apply ol;go_simp;exact gl
 · intros;apply ol;go_simp;exact gl
 · intro w' hR _ hP;apply ol;have z0:=hP.2.Yw;have z1:=hP.2.fz;go_simp;exact ⟨⟨ZX.set _ _,hP.1.Z4 hb _ _,hP.2.WE _⟩,trivial⟩
 intro vv w2 hR hP _
 obtain ⟨m2,i2⟩ : Z9 w2 L ((s.by who).step (6 + t + x * 2) (s.wd (6 + t + x * 2))) /\ ZL w2 b o T (cs.setIfInBounds (o + 14) (.int .u64 v)) { a with se:=v }:=hP
 have o2 : Only (L.and b) w w2:=o1.drew.trans hR.only
 have v2:=v1.dn hR.only hbv hbb
 have k2 : w2.cell? ⟨b,o + 14,none⟩ = some (.int .u64 v):=i2.Yw
 clear hR o1 v1 m1 i1
 go_wp2_with (go_at_call 47;refine (sw _).mono ?_;rintro e w3 ⟨rfl,b3⟩)
 have q0:=At.new w3 94 [iV st,iV A,iV Gs,iV V]
 obtain ⟨S,hS⟩ : ∃ S,w3.heap.size = S:=⟨_,rfl⟩
 have bS : S ≠ b:=by have:=i2.lt;have:=b3.size;omega
 rw [hS] at q0 ⊢
 obtain ⟨cs1,hcs1⟩ : ∃ c,cs.setIfInBounds (o + 14) (.int .u64 v) = c:=⟨_,rfl⟩
 have s1 : Same o 19 cs cs1:=by rw [<- hcs1];exact Same.refl.set (by omega) _
 obtain ⟨a1,ha1⟩ : ∃ x : MV,{ a with se:=v } = x:=⟨_,rfl⟩
 have e1 : Hid (a1.gn = a.gn /\ a1.ad = a.ad /\ a1.sz = a.sz /\ a1.pl = a.pl):=by unfold Hid;rw [<- ha1];exact ⟨rfl,rfl,rfl,rfl⟩
 have Ff : Hid ((Gs == a1.gn) = true):=by unfold Hid;rw [e1.out.1];exact Fg.out
 have RV : Hid (((A : Int) == a1.ad) = false):=by unfold Hid;rw [e1.out.2.1];exact Bl.out
 rw [hcs1,ha1] at i2
 refine ZY (fun W=>Z9 W L ((s.by who).step (6 + t + x * 2) (s.wd (6 + t + x * 2))) /\ ZL W b o T cs1 a1 /\ ZV W w.heap.size t n k m g p r L.p who /\ At W S 0 94 _ [iV st,iV A,iV Gs,iV V] /\ Only (L.and b) w W) ⟨(m2.below b3).alloc _,(i2.grown b3).grown (ZT _ _),(v2.grown b3).grown (ZT _ _),q0,(o2.trans (Only.ZZ b3)).alloc _⟩ ?_
 clear b3 sw q0 hS m2 i2 v2 o2 k2
 rintro W ⟨m1,i1,v1,q1,o1⟩
 refine Zu Grown [.val (pP S 2),.val (iV Gs),.val (pP b o),.val (pP b o),.val (pP b (o + 2)),.val (pP b (o + 5)),.val (iV a1.gn),.val (.bool true),.val (.bool true),.val (pP S 1),.val (iV A),.val (pP b o),.val (pP b o),.val (pP b (o + 1)),.val (iV a1.ad),.val (.bool false),.val (.bool false),.val (.bool false)] (by kernel_rfl) Grown.refl Grown.trans (by kernel_rfl) (by kernel_rfl) (by kernel_rfl) ?_
 simp only [ZE,Act.put,List.setIfInBounds_toArray,List.set_cons_zero,List.set_cons_succ]
 refine ⟨?_,?_,?_,?_,?_,?_,?_,?_,?_,?_,?_,?_,?_,?_,?_,?_,?_,?_,?_⟩
 · intros;apply ol;go_simp;exact gl
 · intro w' hg _;apply ol;have z0:=(q1.drew.grown hg).at0 2 rfl;go_simp;exact gl
 · intros;apply ol;go_simp;exact gl
 · intros;apply ol;go_simp;exact gl
 · intros;apply ol;go_simp;exact gl
 · intros;apply ol;go_simp;exact gl
 · intro w' hg _;apply ol;have z0:=(i1.drew.grown hg).Tu;go_simp;exact gl
 · intro w' hg _;apply ol;have z : (Gs == a1.gn) = true:=Ff.out;go_simp;exact gl
 · intros;apply ol;go_simp;exact gl
 · intros;apply ol;go_simp;exact gl
 · intro w' hg _;apply ol;have z0:=(q1.drew.grown hg).at0 1 rfl;go_simp;exact gl
 · intros;apply ol;go_simp;exact gl
 · intros;apply ol;go_simp;exact gl
 · intros;apply ol;go_simp;exact gl
 · intro w' hg _;apply ol;have z0:=(i1.drew.grown hg).TI;go_simp;exact gl
 · intro w' hg _;apply ol;have z : ((A : Int) == a1.ad) = false:=RV.out;go_simp;exact gl
 · intros;apply ol;go_simp;exact gl
 · intros;apply ol;go_simp;exact gl
 intro w5 hg _
 have m5:=m1.drew.below hg
 have i5:=i1.drew.grown hg
 have v5:=v1.dg hg
 have q5:=q1.drew.grown hg
 have o5:=o1.og hg
 clear hg m1 i1 v1 q1 o1
 have z0:=q5.at0 0 rfl
 have z3:=q5.at0 3 rfl
 have k0:=i5.ZO
 have kf:=i5.fz
 obtain ⟨y0,y1,y2,y3,y4,y5,y6,y7,y8⟩:=id v5
 go_wp2_with (first
  | (go_at_call 197;refine (Wx (κ:=κ) (τ:=τ) (A:=B) (i:=i) (d:=d) m5 hb i5 2 (by rw [e1.out.2.2.2];exact MC.out) MB.out).mono ?_;rintro e w8 ⟨rfl,s8,EG,a8,m8,o8,i8,q8,rfl,rfl⟩))
 go_end0
 exact ⟨rfl,_,_,_,m8,o5.trans o8,i8,s1.trans q8,rfl,by rw [<- ha1]⟩
theorem Fb (h : Z9 w L s) (hb : ¬ L.has b) (hi : ZL w b o T cs a) (who : Int) (hG : Good t n k m g p r) {x : Nat} (hx : x < n) (hsl : a.sl = x) (hn : (6 + t + x * 2) < s.n) {v st : Int} {A : Nat} {Gs V : Int} (hv : s.wd (6 + t + x * 2) = v) (hs : Y6 v st A Gs V) {κ : Nat} {τ : Pl} (hp : τ.cells κ a.pl) {B i : Nat} {d : Bool} (ht : τ.told = (B,i,d)) (hgn : (Gs == a.gn) = true) (had : ((A : Int) == a.ad) = true) (h4 : (st == 4) = true) :
 Calls Tryz.prog 182 #[pP b o,eV t n k m g p r L.p who] w fun e w'=>e = .returned (.tuple #[]) /\ YV L b o T cs w w' (fun s' a'=>s' = ((s.by who).step (6 + t + x * 2) (s.wd (6 + t + x * 2))) /\ a' = { a with se:=v,ou:=3,nx:=TG d }):=by
 have HU : Hid (s.wd (6 + t + x * 2) = v):=hv
 have HX : Hid (a.sl = (x : Int)):=hsl
 have sw:=hs.call
 have MC : Hid (τ.cells κ a.pl):=hp
 have MB : Hid (τ.told = (B,i,d)):=ht
 have Fg : Hid ((Gs == a.gn) = true):=hgn
 clear hgn
 have Bl : Hid (((A : Int) == a.ad) = true):=had
 clear had
 clear hv hs hsl hp ht
 obtain ⟨hbv,hbb⟩:=nb h hi.lt
 go_enter Tryz.func182,Tryz.ntmps182
 go_wp2
 refine wo b h (fun _ g=>hi.grown g) ?_
 rintro W ⟨m1,i1,v1,o1⟩
 refine YZ (ZX L b (o + 14)) Grown (Rz L b o T cs (cs.setIfInBounds (o + 14) (.int .u64 v)) s ((s.by who).step (6 + t + x * 2) (s.wd (6 + t + x * 2))) a { a with se:=v }) [5,8] [.val (pP b o),.val (eV t n k m g p r L.p who),.val (pP b o),.val (eV t n k m g p r L.p who),.val (iV (((6 + t + x * 2) : Nat) : Int)),.val (.int .u64 v),.val (pP b o),.val (pP b (o + 14)),.that (fun _ _=>True) (fun _ _ _ _ _=>trivial)]
  (by kernel_rfl) ZX.refl ZX.trans ZX.ZZ Yv ⟨m1.drew,i1.drew⟩ (by kernel_rfl) (by kernel_rfl) (by kernel_rfl) (by kernel_rfl) (by kernel_rfl) ?_
 simp only [Zn,Act.put,List.setIfInBounds_toArray,List.set_cons_zero,List.set_cons_succ]
 refine ⟨?_,?_,?_,?_,?_,?_,?_,?_,?_,?_⟩
 · intros;apply ol;go_simp;exact gl
 · intro w' hR _;apply ol;have y:=(v1.dn hR.only hbv hbb).yy;go_simp;exact gl
 · intros;apply ol;go_simp;exact gl
 · intro w' hR _;apply ol;have y:=(v1.dn hR.only hbv hbb).yy;go_simp;exact gl
 · intro w' hR _;apply ol;go_simp;exact cb (YB (hR.keep (j:=o + 4) (by omega) (by have z:=i1.drew.Xl;rwa [HX.out] at z)) L.p who hG hx)
 · intro w' hR _ hP;apply ol;go_simp;refine (ZK (s:=s) hP.1 _ _ _ _ _ _ _ _ (6 + t + x * 2) hn).mono ?_;rintro e w'' ⟨rfl,m2,o2⟩;exact ⟨_,rfl,⟨ZX.Zj o2 hb,m2,hP.2.only o2 hb⟩,by simp [Want.pred,HU.out]⟩
 · intros;apply ol;go_simp;exact gl
 · intros;apply ol;go_simp;exact gl
 · intro w' hR _ hP;apply ol;have z0:=hP.2.Yw;have z1:=hP.2.fz;go_simp;exact ⟨⟨ZX.set _ _,hP.1.Z4 hb _ _,hP.2.WE _⟩,trivial⟩
 intro vv w2 hR hP _
 obtain ⟨m2,i2⟩ : Z9 w2 L ((s.by who).step (6 + t + x * 2) (s.wd (6 + t + x * 2))) /\ ZL w2 b o T (cs.setIfInBounds (o + 14) (.int .u64 v)) { a with se:=v }:=hP
 have o2 : Only (L.and b) w w2:=o1.drew.trans hR.only
 have v2:=v1.dn hR.only hbv hbb
 have k2 : w2.cell? ⟨b,o + 14,none⟩ = some (.int .u64 v):=i2.Yw
 clear hR o1 v1 m1 i1
 go_wp2_with (go_at_call 47;refine (sw _).mono ?_;rintro e w3 ⟨rfl,b3⟩)
 have q0:=At.new w3 94 [iV st,iV A,iV Gs,iV V]
 obtain ⟨S,hS⟩ : ∃ S,w3.heap.size = S:=⟨_,rfl⟩
 have bS : S ≠ b:=by have:=i2.lt;have:=b3.size;omega
 rw [hS] at q0 ⊢
 obtain ⟨cs1,hcs1⟩ : ∃ c,cs.setIfInBounds (o + 14) (.int .u64 v) = c:=⟨_,rfl⟩
 have s1 : Same o 19 cs cs1:=by rw [<- hcs1];exact Same.refl.set (by omega) _
 obtain ⟨a1,ha1⟩ : ∃ x : MV,{ a with se:=v } = x:=⟨_,rfl⟩
 have e1 : Hid (a1.gn = a.gn /\ a1.ad = a.ad /\ a1.sz = a.sz /\ a1.pl = a.pl):=by unfold Hid;rw [<- ha1];exact ⟨rfl,rfl,rfl,rfl⟩
 have Ff : Hid ((Gs == a1.gn) = true):=by unfold Hid;rw [e1.out.1];exact Fg.out
 have RV : Hid (((A : Int) == a1.ad) = true):=by unfold Hid;rw [e1.out.2.1];exact Bl.out
 rw [hcs1,ha1] at i2
 refine ZY (fun W=>Z9 W L ((s.by who).step (6 + t + x * 2) (s.wd (6 + t + x * 2))) /\ ZL W b o T cs1 a1 /\ ZV W w.heap.size t n k m g p r L.p who /\ At W S 0 94 _ [iV st,iV A,iV Gs,iV V] /\ Only (L.and b) w W) ⟨(m2.below b3).alloc _,(i2.grown b3).grown (ZT _ _),(v2.grown b3).grown (ZT _ _),q0,(o2.trans (Only.ZZ b3)).alloc _⟩ ?_
 clear b3 sw q0 hS m2 i2 v2 o2 k2
 rintro W ⟨m1,i1,v1,q1,o1⟩
 refine Zu Grown [.val (pP S 2),.val (iV Gs),.val (pP b o),.val (pP b o),.val (pP b (o + 2)),.val (pP b (o + 5)),.val (iV a1.gn),.val (.bool true),.val (.bool true),.val (pP S 1),.val (iV A),.val (pP b o),.val (pP b o),.val (pP b (o + 1)),.val (iV a1.ad),.val (.bool true),.val (.bool true),.val (.bool true)] (by kernel_rfl) Grown.refl Grown.trans (by kernel_rfl) (by kernel_rfl) (by kernel_rfl) ?_
 simp only [ZE,Act.put,List.setIfInBounds_toArray,List.set_cons_zero,List.set_cons_succ]
 refine ⟨?_,?_,?_,?_,?_,?_,?_,?_,?_,?_,?_,?_,?_,?_,?_,?_,?_,?_,?_⟩
 · intros;apply ol;go_simp;exact gl
 · intro w' hg _;apply ol;have z0:=(q1.drew.grown hg).at0 2 rfl;go_simp;exact gl
 · intros;apply ol;go_simp;exact gl
 · intros;apply ol;go_simp;exact gl
 · intros;apply ol;go_simp;exact gl
 · intros;apply ol;go_simp;exact gl
 · intro w' hg _;apply ol;have z0:=(i1.drew.grown hg).Tu;go_simp;exact gl
 · intro w' hg _;apply ol;have z : (Gs == a1.gn) = true:=Ff.out;go_simp;exact gl
 · intros;apply ol;go_simp;exact gl
 · intros;apply ol;go_simp;exact gl
 · intro w' hg _;apply ol;have z0:=(q1.drew.grown hg).at0 1 rfl;go_simp;exact gl
 · intros;apply ol;go_simp;exact gl
 · intros;apply ol;go_simp;exact gl
 · intros;apply ol;go_simp;exact gl
 · intro w' hg _;apply ol;have z0:=(i1.drew.grown hg).TI;go_simp;exact gl
 · intro w' hg _;apply ol;have z : ((A : Int) == a1.ad) = true:=RV.out;go_simp;exact gl
 · intros;apply ol;go_simp;exact gl
 · intros;apply ol;go_simp;exact gl
 intro w5 hg _
 have m5:=m1.drew.below hg
 have i5:=i1.drew.grown hg
 have v5:=v1.dg hg
 have q5:=q1.drew.grown hg
 have o5:=o1.og hg
 clear hg m1 i1 v1 q1 o1
 have z0:=q5.at0 0 rfl
 have z3:=q5.at0 3 rfl
 have k0:=i5.ZO
 have kf:=i5.fz
 obtain ⟨y0,y1,y2,y3,y4,y5,y6,y7,y8⟩:=id v5
 go_wp2_with (first
  | (go_at_call 197;refine (Wx (κ:=κ) (τ:=τ) (A:=B) (i:=i) (d:=d) m5 hb i5 3 (by rw [e1.out.2.2.2];exact MC.out) MB.out).mono ?_;rintro e w8 ⟨rfl,s8,EG,a8,m8,o8,i8,q8,rfl,rfl⟩))
 go_end0
 exact ⟨rfl,_,_,_,m8,o5.trans o8,i8,s1.trans q8,rfl,by rw [<- ha1]⟩
theorem Fa (h : Z9 w L s) (hb : ¬ L.has b) (hi : ZL w b o T cs a) (who : Int) (hG : Good t n k m g p r) {x : Nat} (hx : x < n) (hsl : a.sl = x) (hn : (6 + t + x * 2) < s.n) {v st : Int} {A : Nat} {Gs V : Int} (hv : s.wd (6 + t + x * 2) = v) (hs : Y6 v st A Gs V) {κ : Nat} {τ : Pl} (hp : τ.cells κ a.pl) {B i : Nat} {d : Bool} (ht : τ.told = (B,i,d)) (hgn : (Gs == a.gn) = true) (had : ((A : Int) == a.ad) = true) (h4 : (st == 4) = false) (h1 : (st != 1) = true) :
 Calls Tryz.prog 182 #[pP b o,eV t n k m g p r L.p who] w fun e w'=>e = .returned (.tuple #[]) /\ YV L b o T cs w w' (fun s' a'=>s' = ((s.by who).step (6 + t + x * 2) (s.wd (6 + t + x * 2))) /\ a' = { a with se:=v,ou:=2,nx:=TG d }):=by
 have HU : Hid (s.wd (6 + t + x * 2) = v):=hv
 have HX : Hid (a.sl = (x : Int)):=hsl
 have sw:=hs.call
 have MC : Hid (τ.cells κ a.pl):=hp
 have MB : Hid (τ.told = (B,i,d)):=ht
 have Fg : Hid ((Gs == a.gn) = true):=hgn
 clear hgn
 have Bl : Hid (((A : Int) == a.ad) = true):=had
 clear had
 clear hv hs hsl hp ht
 obtain ⟨hbv,hbb⟩:=nb h hi.lt
 go_enter Tryz.func182,Tryz.ntmps182
 go_wp2
 refine wo b h (fun _ g=>hi.grown g) ?_
 rintro W ⟨m1,i1,v1,o1⟩
 refine YZ (ZX L b (o + 14)) Grown (Rz L b o T cs (cs.setIfInBounds (o + 14) (.int .u64 v)) s ((s.by who).step (6 + t + x * 2) (s.wd (6 + t + x * 2))) a { a with se:=v }) [5,8] [.val (pP b o),.val (eV t n k m g p r L.p who),.val (pP b o),.val (eV t n k m g p r L.p who),.val (iV (((6 + t + x * 2) : Nat) : Int)),.val (.int .u64 v),.val (pP b o),.val (pP b (o + 14)),.that (fun _ _=>True) (fun _ _ _ _ _=>trivial)]
  (by kernel_rfl) ZX.refl ZX.trans ZX.ZZ Yv ⟨m1.drew,i1.drew⟩ (by kernel_rfl) (by kernel_rfl) (by kernel_rfl) (by kernel_rfl) (by kernel_rfl) ?_
 simp only [Zn,Act.put,List.setIfInBounds_toArray,List.set_cons_zero,List.set_cons_succ]
 refine ⟨?_,?_,?_,?_,?_,?_,?_,?_,?_,?_⟩
 · intros;apply ol;go_simp;exact gl
 · intro w' hR _;apply ol;have y:=(v1.dn hR.only hbv hbb).yy;go_simp;exact gl
 · intros;apply ol;go_simp;exact gl
 · intro w' hR _;apply ol;have y:=(v1.dn hR.only hbv hbb).yy;go_simp;exact gl
 · intro w' hR _;apply ol;go_simp;exact cb (YB (hR.keep (j:=o + 4) (by omega) (by have z:=i1.drew.Xl;rwa [HX.out] at z)) L.p who hG hx)
 · intro w' hR _ hP;apply ol;go_simp;refine (ZK (s:=s) hP.1 _ _ _ _ _ _ _ _ (6 + t + x * 2) hn).mono ?_;rintro e w'' ⟨rfl,m2,o2⟩;exact ⟨_,rfl,⟨ZX.Zj o2 hb,m2,hP.2.only o2 hb⟩,by simp [Want.pred,HU.out]⟩
 · intros;apply ol;go_simp;exact gl
 · intros;apply ol;go_simp;exact gl
 · intro w' hR _ hP;apply ol;have z0:=hP.2.Yw;have z1:=hP.2.fz;go_simp;exact ⟨⟨ZX.set _ _,hP.1.Z4 hb _ _,hP.2.WE _⟩,trivial⟩
 intro vv w2 hR hP _
 obtain ⟨m2,i2⟩ : Z9 w2 L ((s.by who).step (6 + t + x * 2) (s.wd (6 + t + x * 2))) /\ ZL w2 b o T (cs.setIfInBounds (o + 14) (.int .u64 v)) { a with se:=v }:=hP
 have o2 : Only (L.and b) w w2:=o1.drew.trans hR.only
 have v2:=v1.dn hR.only hbv hbb
 have k2 : w2.cell? ⟨b,o + 14,none⟩ = some (.int .u64 v):=i2.Yw
 clear hR o1 v1 m1 i1
 go_wp2_with (go_at_call 47;refine (sw _).mono ?_;rintro e w3 ⟨rfl,b3⟩)
 have q0:=At.new w3 94 [iV st,iV A,iV Gs,iV V]
 obtain ⟨S,hS⟩ : ∃ S,w3.heap.size = S:=⟨_,rfl⟩
 have bS : S ≠ b:=by have:=i2.lt;have:=b3.size;omega
 rw [hS] at q0 ⊢
 obtain ⟨cs1,hcs1⟩ : ∃ c,cs.setIfInBounds (o + 14) (.int .u64 v) = c:=⟨_,rfl⟩
 have s1 : Same o 19 cs cs1:=by rw [<- hcs1];exact Same.refl.set (by omega) _
 obtain ⟨a1,ha1⟩ : ∃ x : MV,{ a with se:=v } = x:=⟨_,rfl⟩
 have e1 : Hid (a1.gn = a.gn /\ a1.ad = a.ad /\ a1.sz = a.sz /\ a1.pl = a.pl):=by unfold Hid;rw [<- ha1];exact ⟨rfl,rfl,rfl,rfl⟩
 have Ff : Hid ((Gs == a1.gn) = true):=by unfold Hid;rw [e1.out.1];exact Fg.out
 have RV : Hid (((A : Int) == a1.ad) = true):=by unfold Hid;rw [e1.out.2.1];exact Bl.out
 rw [hcs1,ha1] at i2
 refine ZY (fun W=>Z9 W L ((s.by who).step (6 + t + x * 2) (s.wd (6 + t + x * 2))) /\ ZL W b o T cs1 a1 /\ ZV W w.heap.size t n k m g p r L.p who /\ At W S 0 94 _ [iV st,iV A,iV Gs,iV V] /\ Only (L.and b) w W) ⟨(m2.below b3).alloc _,(i2.grown b3).grown (ZT _ _),(v2.grown b3).grown (ZT _ _),q0,(o2.trans (Only.ZZ b3)).alloc _⟩ ?_
 clear b3 sw q0 hS m2 i2 v2 o2 k2
 rintro W ⟨m1,i1,v1,q1,o1⟩
 refine Zu Grown [.val (pP S 2),.val (iV Gs),.val (pP b o),.val (pP b o),.val (pP b (o + 2)),.val (pP b (o + 5)),.val (iV a1.gn),.val (.bool true),.val (.bool true),.val (pP S 1),.val (iV A),.val (pP b o),.val (pP b o),.val (pP b (o + 1)),.val (iV a1.ad),.val (.bool true),.val (.bool true),.val (.bool true)] (by kernel_rfl) Grown.refl Grown.trans (by kernel_rfl) (by kernel_rfl) (by kernel_rfl) ?_
 simp only [ZE,Act.put,List.setIfInBounds_toArray,List.set_cons_zero,List.set_cons_succ]
 refine ⟨?_,?_,?_,?_,?_,?_,?_,?_,?_,?_,?_,?_,?_,?_,?_,?_,?_,?_,?_⟩
 · intros;apply ol;go_simp;exact gl
 · intro w' hg _;apply ol;have z0:=(q1.drew.grown hg).at0 2 rfl;go_simp;exact gl
 · intros;apply ol;go_simp;exact gl
 · intros;apply ol;go_simp;exact gl
 · intros;apply ol;go_simp;exact gl
 · intros;apply ol;go_simp;exact gl
 · intro w' hg _;apply ol;have z0:=(i1.drew.grown hg).Tu;go_simp;exact gl
 · intro w' hg _;apply ol;have z : (Gs == a1.gn) = true:=Ff.out;go_simp;exact gl
 · intros;apply ol;go_simp;exact gl
 · intros;apply ol;go_simp;exact gl
 · intro w' hg _;apply ol;have z0:=(q1.drew.grown hg).at0 1 rfl;go_simp;exact gl
 · intros;apply ol;go_simp;exact gl
 · intros;apply ol;go_simp;exact gl
 · intros;apply ol;go_simp;exact gl
 · intro w' hg _;apply ol;have z0:=(i1.drew.grown hg).TI;go_simp;exact gl
 · intro w' hg _;apply ol;have z : ((A : Int) == a1.ad) = true:=RV.out;go_simp;exact gl
 · intros;apply ol;go_simp;exact gl
 · intros;apply ol;go_simp;exact gl
 intro w5 hg _
 have m5:=m1.drew.below hg
 have i5:=i1.drew.grown hg
 have v5:=v1.dg hg
 have q5:=q1.drew.grown hg
 have o5:=o1.og hg
 clear hg m1 i1 v1 q1 o1
 have z0:=q5.at0 0 rfl
 have z3:=q5.at0 3 rfl
 have k0:=i5.ZO
 have kf:=i5.fz
 obtain ⟨y0,y1,y2,y3,y4,y5,y6,y7,y8⟩:=id v5
 go_wp2_with (first
  | (go_at_call 197;refine (Wx (κ:=κ) (τ:=τ) (A:=B) (i:=i) (d:=d) m5 hb i5 2 (by rw [e1.out.2.2.2];exact MC.out) MB.out).mono ?_;rintro e w8 ⟨rfl,s8,EG,a8,m8,o8,i8,q8,rfl,rfl⟩))
 go_end0
 exact ⟨rfl,_,_,_,m8,o5.trans o8,i8,s1.trans q8,rfl,by rw [<- ha1]⟩
theorem Bj (h : Z9 w L s) (hb : ¬ L.has b) (hi : ZL w b o T cs a) (who : Int) (hG : Good t n k m g p r) {x : Nat} (hx : x < n) (hsl : a.sl = x) (hn : (6 + t + x * 2) < s.n) {v st : Int} {A : Nat} {Gs V : Int} (hv : s.wd (6 + t + x * 2) = v) (hs : Y6 v st A Gs V) {κ : Nat} {τ : Pl} (hp : τ.cells κ a.pl) {B i : Nat} {d : Bool} (ht : τ.told = (B,i,d)) (hgn : (Gs == a.gn) = true) (had : ((A : Int) == a.ad) = true) (h4 : (st == 4) = false) (h1 : (st != 1) = false) {ci : Int} (hF : XF t n k m a.ad a.sz ci) (hV : decide (V ≥ 4194302) = true) :
 Calls Tryz.prog 182 #[pP b o,eV t n k m g p r L.p who] w fun e w'=>e = .returned (.tuple #[]) /\ YV L b o T cs w w' (fun s' a'=>s' = ((s.by who).step (6 + t + x * 2) (s.wd (6 + t + x * 2))) /\ a' = { a with se:=v,ou:=3,nx:=TG d }):=by
 have HU : Hid (s.wd (6 + t + x * 2) = v):=hv
 have HX : Hid (a.sl = (x : Int)):=hsl
 have sw:=hs.call
 have MC : Hid (τ.cells κ a.pl):=hp
 have MB : Hid (τ.told = (B,i,d)):=ht
 have Fg : Hid ((Gs == a.gn) = true):=hgn
 clear hgn
 have Bl : Hid (((A : Int) == a.ad) = true):=had
 clear had
 have HF : Hid (XF t n k m a.ad a.sz ci):=hF
 clear hF
 clear hv hs hsl hp ht
 obtain ⟨hbv,hbb⟩:=nb h hi.lt
 go_enter Tryz.func182,Tryz.ntmps182
 go_wp2
 refine wo b h (fun _ g=>hi.grown g) ?_
 rintro W ⟨m1,i1,v1,o1⟩
 refine YZ (ZX L b (o + 14)) Grown (Rz L b o T cs (cs.setIfInBounds (o + 14) (.int .u64 v)) s ((s.by who).step (6 + t + x * 2) (s.wd (6 + t + x * 2))) a { a with se:=v }) [5,8] [.val (pP b o),.val (eV t n k m g p r L.p who),.val (pP b o),.val (eV t n k m g p r L.p who),.val (iV (((6 + t + x * 2) : Nat) : Int)),.val (.int .u64 v),.val (pP b o),.val (pP b (o + 14)),.that (fun _ _=>True) (fun _ _ _ _ _=>trivial)]
  (by kernel_rfl) ZX.refl ZX.trans ZX.ZZ Yv ⟨m1.drew,i1.drew⟩ (by kernel_rfl) (by kernel_rfl) (by kernel_rfl) (by kernel_rfl) (by kernel_rfl) ?_
 simp only [Zn,Act.put,List.setIfInBounds_toArray,List.set_cons_zero,List.set_cons_succ]
 refine ⟨?_,?_,?_,?_,?_,?_,?_,?_,?_,?_⟩
 · intros;apply ol;go_simp;exact gl
 · intro w' hR _;apply ol;have y:=(v1.dn hR.only hbv hbb).yy;go_simp;exact gl
 · intros;apply ol;go_simp;exact gl
 · intro w' hR _;apply ol;have y:=(v1.dn hR.only hbv hbb).yy;go_simp;exact gl
 · intro w' hR _;apply ol;go_simp;exact cb (YB (hR.keep (j:=o + 4) (by omega) (by have z:=i1.drew.Xl;rwa [HX.out] at z)) L.p who hG hx)
 · intro w' hR _ hP;apply ol;go_simp;refine (ZK (s:=s) hP.1 _ _ _ _ _ _ _ _ (6 + t + x * 2) hn).mono ?_;rintro e w'' ⟨rfl,m2,o2⟩;exact ⟨_,rfl,⟨ZX.Zj o2 hb,m2,hP.2.only o2 hb⟩,by simp [Want.pred,HU.out]⟩
 · intros;apply ol;go_simp;exact gl
 · intros;apply ol;go_simp;exact gl
 · intro w' hR _ hP;apply ol;have z0:=hP.2.Yw;have z1:=hP.2.fz;go_simp;exact ⟨⟨ZX.set _ _,hP.1.Z4 hb _ _,hP.2.WE _⟩,trivial⟩
 intro vv w2 hR hP _
 obtain ⟨m2,i2⟩ : Z9 w2 L ((s.by who).step (6 + t + x * 2) (s.wd (6 + t + x * 2))) /\ ZL w2 b o T (cs.setIfInBounds (o + 14) (.int .u64 v)) { a with se:=v }:=hP
 have o2 : Only (L.and b) w w2:=o1.drew.trans hR.only
 have v2:=v1.dn hR.only hbv hbb
 have k2 : w2.cell? ⟨b,o + 14,none⟩ = some (.int .u64 v):=i2.Yw
 clear hR o1 v1 m1 i1
 go_wp2_with (go_at_call 47;refine (sw _).mono ?_;rintro e w3 ⟨rfl,b3⟩)
 have q0:=At.new w3 94 [iV st,iV A,iV Gs,iV V]
 obtain ⟨S,hS⟩ : ∃ S,w3.heap.size = S:=⟨_,rfl⟩
 have bS : S ≠ b:=by have:=i2.lt;have:=b3.size;omega
 rw [hS] at q0 ⊢
 obtain ⟨cs1,hcs1⟩ : ∃ c,cs.setIfInBounds (o + 14) (.int .u64 v) = c:=⟨_,rfl⟩
 have s1 : Same o 19 cs cs1:=by rw [<- hcs1];exact Same.refl.set (by omega) _
 obtain ⟨a1,ha1⟩ : ∃ x : MV,{ a with se:=v } = x:=⟨_,rfl⟩
 have e1 : Hid (a1.gn = a.gn /\ a1.ad = a.ad /\ a1.sz = a.sz /\ a1.pl = a.pl):=by unfold Hid;rw [<- ha1];exact ⟨rfl,rfl,rfl,rfl⟩
 have Ff : Hid ((Gs == a1.gn) = true):=by unfold Hid;rw [e1.out.1];exact Fg.out
 have RV : Hid (((A : Int) == a1.ad) = true):=by unfold Hid;rw [e1.out.2.1];exact Bl.out
 rw [hcs1,ha1] at i2
 refine ZY (fun W=>Z9 W L ((s.by who).step (6 + t + x * 2) (s.wd (6 + t + x * 2))) /\ ZL W b o T cs1 a1 /\ ZV W w.heap.size t n k m g p r L.p who /\ At W S 0 94 _ [iV st,iV A,iV Gs,iV V] /\ Only (L.and b) w W) ⟨(m2.below b3).alloc _,(i2.grown b3).grown (ZT _ _),(v2.grown b3).grown (ZT _ _),q0,(o2.trans (Only.ZZ b3)).alloc _⟩ ?_
 clear b3 sw q0 hS m2 i2 v2 o2 k2
 rintro W ⟨m1,i1,v1,q1,o1⟩
 refine Zu Grown [.val (pP S 2),.val (iV Gs),.val (pP b o),.val (pP b o),.val (pP b (o + 2)),.val (pP b (o + 5)),.val (iV a1.gn),.val (.bool true),.val (.bool true),.val (pP S 1),.val (iV A),.val (pP b o),.val (pP b o),.val (pP b (o + 1)),.val (iV a1.ad),.val (.bool true),.val (.bool true),.val (.bool true)] (by kernel_rfl) Grown.refl Grown.trans (by kernel_rfl) (by kernel_rfl) (by kernel_rfl) ?_
 simp only [ZE,Act.put,List.setIfInBounds_toArray,List.set_cons_zero,List.set_cons_succ]
 refine ⟨?_,?_,?_,?_,?_,?_,?_,?_,?_,?_,?_,?_,?_,?_,?_,?_,?_,?_,?_⟩
 · intros;apply ol;go_simp;exact gl
 · intro w' hg _;apply ol;have z0:=(q1.drew.grown hg).at0 2 rfl;go_simp;exact gl
 · intros;apply ol;go_simp;exact gl
 · intros;apply ol;go_simp;exact gl
 · intros;apply ol;go_simp;exact gl
 · intros;apply ol;go_simp;exact gl
 · intro w' hg _;apply ol;have z0:=(i1.drew.grown hg).Tu;go_simp;exact gl
 · intro w' hg _;apply ol;have z : (Gs == a1.gn) = true:=Ff.out;go_simp;exact gl
 · intros;apply ol;go_simp;exact gl
 · intros;apply ol;go_simp;exact gl
 · intro w' hg _;apply ol;have z0:=(q1.drew.grown hg).at0 1 rfl;go_simp;exact gl
 · intros;apply ol;go_simp;exact gl
 · intros;apply ol;go_simp;exact gl
 · intros;apply ol;go_simp;exact gl
 · intro w' hg _;apply ol;have z0:=(i1.drew.grown hg).TI;go_simp;exact gl
 · intro w' hg _;apply ol;have z : ((A : Int) == a1.ad) = true:=RV.out;go_simp;exact gl
 · intros;apply ol;go_simp;exact gl
 · intros;apply ol;go_simp;exact gl
 intro w5 hg _
 have m5:=m1.drew.below hg
 have i5:=i1.drew.grown hg
 have v5:=v1.dg hg
 have q5:=q1.drew.grown hg
 have o5:=o1.og hg
 clear hg m1 i1 v1 q1 o1
 have z0:=q5.at0 0 rfl
 have z3:=q5.at0 3 rfl
 have k0:=i5.ZO
 have kf:=i5.fz
 obtain ⟨y0,y1,y2,y3,y4,y5,y6,y7,y8⟩:=id v5
 go_wp2_with (first
  | (go_at_call 195;refine (UQ i5 hG (i:=ci) (by rw [e1.out.2.1,e1.out.2.2.1];exact HF.out)).mono ?_;rintro e w6 ⟨rfl,b6⟩;have m6:=m5.below b6;have i6:=i5.grown b6;have o6:=o5.trans (Only.ZZ b6);have q6:=q5.grown b6;have t3:=q6.at0 3 rfl)
  | (go_at_call 197;refine (Wx (κ:=κ) (τ:=τ) (A:=B) (i:=i) (d:=d) m6 hb i6 3 (by rw [e1.out.2.2.2];exact MC.out) MB.out).mono ?_;rintro e w8 ⟨rfl,s8,EG,a8,m8,o8,i8,q8,rfl,rfl⟩))
 go_end0
 exact ⟨rfl,_,_,_,m8,o6.trans o8,i8,s1.trans q8,rfl,by rw [<- ha1]⟩
theorem E8 (h : Z9 w L s) (hb : ¬ L.has b) (hi : ZL w b o T cs a) (who : Int) (hG : Good t n k m g p r) {x : Nat} (hx : x < n) (hsl : a.sl = x) (hn : (6 + t + x * 2) < s.n) {v st : Int} {A : Nat} {Gs V : Int} (hv : s.wd (6 + t + x * 2) = v) (hs : Y6 v st A Gs V) {κ : Nat} {τ : Pl} (hp : τ.cells κ a.pl) {B i : Nat} {d : Bool} (ht : τ.told = (B,i,d)) (hgn : (Gs == a.gn) = true) (had : ((A : Int) == a.ad) = true) (h4 : (st == 4) = false) (h1 : (st != 1) = false) {ci : Int} (hF : XF t n k m a.ad a.sz ci) (hV : decide (V ≥ 4194302) = false) (hd : d = true) :
 Calls Tryz.prog 182 #[pP b o,eV t n k m g p r L.p who] w fun e w'=>e = .returned (.tuple #[]) /\ YV L b o T cs w w' (fun s' a'=>s' = ((s.by who).step (6 + t + x * 2) (s.wd (6 + t + x * 2))) /\ a' = { a with se:=v,nx:=2 }):=by
 have HU : Hid (s.wd (6 + t + x * 2) = v):=hv
 have HX : Hid (a.sl = (x : Int)):=hsl
 have sw:=hs.call
 have MC : Hid (τ.cells κ a.pl):=hp
 have MB : Hid (τ.told = (B,i,d)):=ht
 have Fg : Hid ((Gs == a.gn) = true):=hgn
 clear hgn
 have Bl : Hid (((A : Int) == a.ad) = true):=had
 clear had
 have HF : Hid (XF t n k m a.ad a.sz ci):=hF
 clear hF
 clear hv hs hsl hp ht
 obtain ⟨hbv,hbb⟩:=nb h hi.lt
 go_enter Tryz.func182,Tryz.ntmps182
 go_wp2
 refine wo b h (fun _ g=>hi.grown g) ?_
 rintro W ⟨m1,i1,v1,o1⟩
 refine YZ (ZX L b (o + 14)) Grown (Rz L b o T cs (cs.setIfInBounds (o + 14) (.int .u64 v)) s ((s.by who).step (6 + t + x * 2) (s.wd (6 + t + x * 2))) a { a with se:=v }) [5,8] [.val (pP b o),.val (eV t n k m g p r L.p who),.val (pP b o),.val (eV t n k m g p r L.p who),.val (iV (((6 + t + x * 2) : Nat) : Int)),.val (.int .u64 v),.val (pP b o),.val (pP b (o + 14)),.that (fun _ _=>True) (fun _ _ _ _ _=>trivial)]
  (by kernel_rfl) ZX.refl ZX.trans ZX.ZZ Yv ⟨m1.drew,i1.drew⟩ (by kernel_rfl) (by kernel_rfl) (by kernel_rfl) (by kernel_rfl) (by kernel_rfl) ?_
 simp only [Zn,Act.put,List.setIfInBounds_toArray,List.set_cons_zero,List.set_cons_succ]
 refine ⟨?_,?_,?_,?_,?_,?_,?_,?_,?_,?_⟩
 · intros;apply ol;go_simp;exact gl
 · intro w' hR _;apply ol;have y:=(v1.dn hR.only hbv hbb).yy;go_simp;exact gl
 · intros;apply ol;go_simp;exact gl
 · intro w' hR _;apply ol;have y:=(v1.dn hR.only hbv hbb).yy;go_simp;exact gl
 · intro w' hR _;apply ol;go_simp;exact cb (YB (hR.keep (j:=o + 4) (by omega) (by have z:=i1.drew.Xl;rwa [HX.out] at z)) L.p who hG hx)
 · intro w' hR _ hP;apply ol;go_simp;refine (ZK (s:=s) hP.1 _ _ _ _ _ _ _ _ (6 + t + x * 2) hn).mono ?_;rintro e w'' ⟨rfl,m2,o2⟩;exact ⟨_,rfl,⟨ZX.Zj o2 hb,m2,hP.2.only o2 hb⟩,by simp [Want.pred,HU.out]⟩
 · intros;apply ol;go_simp;exact gl
 · intros;apply ol;go_simp;exact gl
 · intro w' hR _ hP;apply ol;have z0:=hP.2.Yw;have z1:=hP.2.fz;go_simp;exact ⟨⟨ZX.set _ _,hP.1.Z4 hb _ _,hP.2.WE _⟩,trivial⟩
 intro vv w2 hR hP _
 obtain ⟨m2,i2⟩ : Z9 w2 L ((s.by who).step (6 + t + x * 2) (s.wd (6 + t + x * 2))) /\ ZL w2 b o T (cs.setIfInBounds (o + 14) (.int .u64 v)) { a with se:=v }:=hP
 have o2 : Only (L.and b) w w2:=o1.drew.trans hR.only
 have v2:=v1.dn hR.only hbv hbb
 have k2 : w2.cell? ⟨b,o + 14,none⟩ = some (.int .u64 v):=i2.Yw
 clear hR o1 v1 m1 i1
 go_wp2_with (go_at_call 47;refine (sw _).mono ?_;rintro e w3 ⟨rfl,b3⟩)
 have q0:=At.new w3 94 [iV st,iV A,iV Gs,iV V]
 obtain ⟨S,hS⟩ : ∃ S,w3.heap.size = S:=⟨_,rfl⟩
 have bS : S ≠ b:=by have:=i2.lt;have:=b3.size;omega
 rw [hS] at q0 ⊢
 obtain ⟨cs1,hcs1⟩ : ∃ c,cs.setIfInBounds (o + 14) (.int .u64 v) = c:=⟨_,rfl⟩
 have s1 : Same o 19 cs cs1:=by rw [<- hcs1];exact Same.refl.set (by omega) _
 obtain ⟨a1,ha1⟩ : ∃ x : MV,{ a with se:=v } = x:=⟨_,rfl⟩
 have e1 : Hid (a1.gn = a.gn /\ a1.ad = a.ad /\ a1.sz = a.sz /\ a1.pl = a.pl):=by unfold Hid;rw [<- ha1];exact ⟨rfl,rfl,rfl,rfl⟩
 have Ff : Hid ((Gs == a1.gn) = true):=by unfold Hid;rw [e1.out.1];exact Fg.out
 have RV : Hid (((A : Int) == a1.ad) = true):=by unfold Hid;rw [e1.out.2.1];exact Bl.out
 rw [hcs1,ha1] at i2
 refine ZY (fun W=>Z9 W L ((s.by who).step (6 + t + x * 2) (s.wd (6 + t + x * 2))) /\ ZL W b o T cs1 a1 /\ ZV W w.heap.size t n k m g p r L.p who /\ At W S 0 94 _ [iV st,iV A,iV Gs,iV V] /\ Only (L.and b) w W) ⟨(m2.below b3).alloc _,(i2.grown b3).grown (ZT _ _),(v2.grown b3).grown (ZT _ _),q0,(o2.trans (Only.ZZ b3)).alloc _⟩ ?_
 clear b3 sw q0 hS m2 i2 v2 o2 k2
 rintro W ⟨m1,i1,v1,q1,o1⟩
 refine Zu Grown [.val (pP S 2),.val (iV Gs),.val (pP b o),.val (pP b o),.val (pP b (o + 2)),.val (pP b (o + 5)),.val (iV a1.gn),.val (.bool true),.val (.bool true),.val (pP S 1),.val (iV A),.val (pP b o),.val (pP b o),.val (pP b (o + 1)),.val (iV a1.ad),.val (.bool true),.val (.bool true),.val (.bool true)] (by kernel_rfl) Grown.refl Grown.trans (by kernel_rfl) (by kernel_rfl) (by kernel_rfl) ?_
 simp only [ZE,Act.put,List.setIfInBounds_toArray,List.set_cons_zero,List.set_cons_succ]
 refine ⟨?_,?_,?_,?_,?_,?_,?_,?_,?_,?_,?_,?_,?_,?_,?_,?_,?_,?_,?_⟩
 · intros;apply ol;go_simp;exact gl
 · intro w' hg _;apply ol;have z0:=(q1.drew.grown hg).at0 2 rfl;go_simp;exact gl
 · intros;apply ol;go_simp;exact gl
 · intros;apply ol;go_simp;exact gl
 · intros;apply ol;go_simp;exact gl
 · intros;apply ol;go_simp;exact gl
 · intro w' hg _;apply ol;have z0:=(i1.drew.grown hg).Tu;go_simp;exact gl
 · intro w' hg _;apply ol;have z : (Gs == a1.gn) = true:=Ff.out;go_simp;exact gl
 · intros;apply ol;go_simp;exact gl
 · intros;apply ol;go_simp;exact gl
 · intro w' hg _;apply ol;have z0:=(q1.drew.grown hg).at0 1 rfl;go_simp;exact gl
 · intros;apply ol;go_simp;exact gl
 · intros;apply ol;go_simp;exact gl
 · intros;apply ol;go_simp;exact gl
 · intro w' hg _;apply ol;have z0:=(i1.drew.grown hg).TI;go_simp;exact gl
 · intro w' hg _;apply ol;have z : ((A : Int) == a1.ad) = true:=RV.out;go_simp;exact gl
 · intros;apply ol;go_simp;exact gl
 · intros;apply ol;go_simp;exact gl
 intro w5 hg _
 have m5:=m1.drew.below hg
 have i5:=i1.drew.grown hg
 have v5:=v1.dg hg
 have q5:=q1.drew.grown hg
 have o5:=o1.og hg
 clear hg m1 i1 v1 q1 o1
 have z0:=q5.at0 0 rfl
 have z3:=q5.at0 3 rfl
 have k0:=i5.ZO
 have kf:=i5.fz
 obtain ⟨y0,y1,y2,y3,y4,y5,y6,y7,y8⟩:=id v5
 go_wp2_with (first
  | (go_at_call 195;refine (UQ i5 hG (i:=ci) (by rw [e1.out.2.1,e1.out.2.2.1];exact HF.out)).mono ?_;rintro e w6 ⟨rfl,b6⟩;have m6:=m5.below b6;have i6:=i5.grown b6;have o6:=o5.trans (Only.ZZ b6);have q6:=q5.grown b6;have t3:=q6.at0 3 rfl)
  | (go_at_call 198;refine (XE (κ:=κ) (τ:=τ) (A:=B) (i:=i) (d:=d) i6 (by rw [e1.out.2.2.2];exact MC.out) MB.out).mono ?_;rintro e w7 ⟨rfl,b7⟩;rw [hd];have m7:=m6.below b7;have i7:=i6.grown b7;have o7:=o6.trans (Only.ZZ b7);have k7:=i7.ZO;have f7:=i7.fz))
 go_end0
 exact ⟨rfl,_,_,_,m7.Z4 hb _ _,o7.set _ _,i7.ZJ 2,s1.set (by omega) _,rfl,by rw [<- ha1]⟩
theorem JA (h : Z9 w L s) (hb : ¬ L.has b) (hi : ZL w b o T cs a) (who : Int) (hG : Good t n k m g p r) {x : Nat} (hx : x < n) (hsl : a.sl = x) (hn : (6 + t + x * 2) < s.n) {v st : Int} {A : Nat} {Gs V : Int} (hv : s.wd (6 + t + x * 2) = v) (hs : Y6 v st A Gs V) {κ : Nat} {τ : Pl} (hp : τ.cells κ a.pl) {B i : Nat} {d : Bool} (ht : τ.told = (B,i,d)) (hgn : (Gs == a.gn) = true) (had : ((A : Int) == a.ad) = true) (h4 : (st == 4) = false) (h1 : (st != 1) = false) {ci : Int} (hF : XF t n k m a.ad a.sz ci) (hV : decide (V ≥ 4194302) = false) (hd : d = false) :
 Calls Tryz.prog 182 #[pP b o,eV t n k m g p r L.p who] w fun e w'=>e = .returned (.tuple #[]) /\ YV L b o T cs w w' (fun s' a'=>s' = ((s.by who).step (6 + t + x * 2) (s.wd (6 + t + x * 2))) /\ a' = { a with se:=v,nx:=1 }):=by
 have HU : Hid (s.wd (6 + t + x * 2) = v):=hv
 have HX : Hid (a.sl = (x : Int)):=hsl
 have sw:=hs.call
 have MC : Hid (τ.cells κ a.pl):=hp
 have MB : Hid (τ.told = (B,i,d)):=ht
 have Fg : Hid ((Gs == a.gn) = true):=hgn
 clear hgn
 have Bl : Hid (((A : Int) == a.ad) = true):=had
 clear had
 have HF : Hid (XF t n k m a.ad a.sz ci):=hF
 clear hF
 clear hv hs hsl hp ht
 obtain ⟨hbv,hbb⟩:=nb h hi.lt
 go_enter Tryz.func182,Tryz.ntmps182
 go_wp2
 refine wo b h (fun _ g=>hi.grown g) ?_
 rintro W ⟨m1,i1,v1,o1⟩
 refine YZ (ZX L b (o + 14)) Grown (Rz L b o T cs (cs.setIfInBounds (o + 14) (.int .u64 v)) s ((s.by who).step (6 + t + x * 2) (s.wd (6 + t + x * 2))) a { a with se:=v }) [5,8] [.val (pP b o),.val (eV t n k m g p r L.p who),.val (pP b o),.val (eV t n k m g p r L.p who),.val (iV (((6 + t + x * 2) : Nat) : Int)),.val (.int .u64 v),.val (pP b o),.val (pP b (o + 14)),.that (fun _ _=>True) (fun _ _ _ _ _=>trivial)]
  (by kernel_rfl) ZX.refl ZX.trans ZX.ZZ Yv ⟨m1.drew,i1.drew⟩ (by kernel_rfl) (by kernel_rfl) (by kernel_rfl) (by kernel_rfl) (by kernel_rfl) ?_
 simp only [Zn,Act.put,List.setIfInBounds_toArray,List.set_cons_zero,List.set_cons_succ]
 refine ⟨?_,?_,?_,?_,?_,?_,?_,?_,?_,?_⟩
 · intros;apply ol;go_simp;exact gl
 · intro w' hR _;apply ol;have y:=(v1.dn hR.only hbv hbb).yy;go_simp;exact gl
 · intros;apply ol;go_simp;exact gl
 · intro w' hR _;apply ol;have y:=(v1.dn hR.only hbv hbb).yy;go_simp;exact gl
 · intro w' hR _;apply ol;go_simp;exact cb (YB (hR.keep (j:=o + 4) (by omega) (by have z:=i1.drew.Xl;rwa [HX.out] at z)) L.p who hG hx)
 · intro w' hR _ hP;apply ol;go_simp;refine (ZK (s:=s) hP.1 _ _ _ _ _ _ _ _ (6 + t + x * 2) hn).mono ?_;rintro e w'' ⟨rfl,m2,o2⟩;exact ⟨_,rfl,⟨ZX.Zj o2 hb,m2,hP.2.only o2 hb⟩,by simp [Want.pred,HU.out]⟩
 · intros;apply ol;go_simp;exact gl
 · intros;apply ol;go_simp;exact gl
 · intro w' hR _ hP;apply ol;have z0:=hP.2.Yw;have z1:=hP.2.fz;go_simp;exact ⟨⟨ZX.set _ _,hP.1.Z4 hb _ _,hP.2.WE _⟩,trivial⟩
 intro vv w2 hR hP _
 obtain ⟨m2,i2⟩ : Z9 w2 L ((s.by who).step (6 + t + x * 2) (s.wd (6 + t + x * 2))) /\ ZL w2 b o T (cs.setIfInBounds (o + 14) (.int .u64 v)) { a with se:=v }:=hP
 have o2 : Only (L.and b) w w2:=o1.drew.trans hR.only
 have v2:=v1.dn hR.only hbv hbb
 have k2 : w2.cell? ⟨b,o + 14,none⟩ = some (.int .u64 v):=i2.Yw
 clear hR o1 v1 m1 i1
 go_wp2_with (go_at_call 47;refine (sw _).mono ?_;rintro e w3 ⟨rfl,b3⟩)
 have q0:=At.new w3 94 [iV st,iV A,iV Gs,iV V]
 obtain ⟨S,hS⟩ : ∃ S,w3.heap.size = S:=⟨_,rfl⟩
 have bS : S ≠ b:=by have:=i2.lt;have:=b3.size;omega
 rw [hS] at q0 ⊢
 obtain ⟨cs1,hcs1⟩ : ∃ c,cs.setIfInBounds (o + 14) (.int .u64 v) = c:=⟨_,rfl⟩
 have s1 : Same o 19 cs cs1:=by rw [<- hcs1];exact Same.refl.set (by omega) _
 obtain ⟨a1,ha1⟩ : ∃ x : MV,{ a with se:=v } = x:=⟨_,rfl⟩
 have e1 : Hid (a1.gn = a.gn /\ a1.ad = a.ad /\ a1.sz = a.sz /\ a1.pl = a.pl):=by unfold Hid;rw [<- ha1];exact ⟨rfl,rfl,rfl,rfl⟩
 have Ff : Hid ((Gs == a1.gn) = true):=by unfold Hid;rw [e1.out.1];exact Fg.out
 have RV : Hid (((A : Int) == a1.ad) = true):=by unfold Hid;rw [e1.out.2.1];exact Bl.out
 rw [hcs1,ha1] at i2
 refine ZY (fun W=>Z9 W L ((s.by who).step (6 + t + x * 2) (s.wd (6 + t + x * 2))) /\ ZL W b o T cs1 a1 /\ ZV W w.heap.size t n k m g p r L.p who /\ At W S 0 94 _ [iV st,iV A,iV Gs,iV V] /\ Only (L.and b) w W) ⟨(m2.below b3).alloc _,(i2.grown b3).grown (ZT _ _),(v2.grown b3).grown (ZT _ _),q0,(o2.trans (Only.ZZ b3)).alloc _⟩ ?_
 clear b3 sw q0 hS m2 i2 v2 o2 k2
 rintro W ⟨m1,i1,v1,q1,o1⟩
 refine Zu Grown [.val (pP S 2),.val (iV Gs),.val (pP b o),.val (pP b o),.val (pP b (o + 2)),.val (pP b (o + 5)),.val (iV a1.gn),.val (.bool true),.val (.bool true),.val (pP S 1),.val (iV A),.val (pP b o),.val (pP b o),.val (pP b (o + 1)),.val (iV a1.ad),.val (.bool true),.val (.bool true),.val (.bool true)] (by kernel_rfl) Grown.refl Grown.trans (by kernel_rfl) (by kernel_rfl) (by kernel_rfl) ?_
 simp only [ZE,Act.put,List.setIfInBounds_toArray,List.set_cons_zero,List.set_cons_succ]
 refine ⟨?_,?_,?_,?_,?_,?_,?_,?_,?_,?_,?_,?_,?_,?_,?_,?_,?_,?_,?_⟩
 · intros;apply ol;go_simp;exact gl
 · intro w' hg _;apply ol;have z0:=(q1.drew.grown hg).at0 2 rfl;go_simp;exact gl
 · intros;apply ol;go_simp;exact gl
 · intros;apply ol;go_simp;exact gl
 · intros;apply ol;go_simp;exact gl
 · intros;apply ol;go_simp;exact gl
 · intro w' hg _;apply ol;have z0:=(i1.drew.grown hg).Tu;go_simp;exact gl
 · intro w' hg _;apply ol;have z : (Gs == a1.gn) = true:=Ff.out;go_simp;exact gl
 · intros;apply ol;go_simp;exact gl
 · intros;apply ol;go_simp;exact gl
 · intro w' hg _;apply ol;have z0:=(q1.drew.grown hg).at0 1 rfl;go_simp;exact gl
 · intros;apply ol;go_simp;exact gl
 · intros;apply ol;go_simp;exact gl
 · intros;apply ol;go_simp;exact gl
 · intro w' hg _;apply ol;have z0:=(i1.drew.grown hg).TI;go_simp;exact gl
 · intro w' hg _;apply ol;have z : ((A : Int) == a1.ad) = true:=RV.out;go_simp;exact gl
 · intros;apply ol;go_simp;exact gl
 · intros;apply ol;go_simp;exact gl
 intro w5 hg _
 have m5:=m1.drew.below hg
 have i5:=i1.drew.grown hg
 have v5:=v1.dg hg
 have q5:=q1.drew.grown hg
 have o5:=o1.og hg
 clear hg m1 i1 v1 q1 o1
 have z0:=q5.at0 0 rfl
 have z3:=q5.at0 3 rfl
 have k0:=i5.ZO
 have kf:=i5.fz
 obtain ⟨y0,y1,y2,y3,y4,y5,y6,y7,y8⟩:=id v5
 go_wp2_with (first
  | (go_at_call 195;refine (UQ i5 hG (i:=ci) (by rw [e1.out.2.1,e1.out.2.2.1];exact HF.out)).mono ?_;rintro e w6 ⟨rfl,b6⟩;have m6:=m5.below b6;have i6:=i5.grown b6;have o6:=o5.trans (Only.ZZ b6);have q6:=q5.grown b6;have t3:=q6.at0 3 rfl)
  | (go_at_call 198;refine (XE (κ:=κ) (τ:=τ) (A:=B) (i:=i) (d:=d) i6 (by rw [e1.out.2.2.2];exact MC.out) MB.out).mono ?_;rintro e w7 ⟨rfl,b7⟩;rw [hd];have m7:=m6.below b7;have i7:=i6.grown b7;have o7:=o6.trans (Only.ZZ b7);have k7:=i7.ZO;have f7:=i7.fz))
 go_end0
 exact ⟨rfl,_,_,_,m7.Z4 hb _ _,o7.set _ _,i7.ZJ 1,s1.set (by omega) _,rfl,by rw [<- ha1]⟩
end
end Go.Proofs.YtmnnhjhhhfabiaaGreat
