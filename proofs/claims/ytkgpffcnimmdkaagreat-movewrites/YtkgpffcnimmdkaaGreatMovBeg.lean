import Derived.Test.YtkgpffcnimmdkaaGreatDropAwake
import Derived.Test.YtkgpffcnimmdkaaGreatMovTale
import Derived.Test.YtkgpffcnimmdkaaGreatMovTown
namespace Go.Proofs.YtkgpffcnimmdkaaGreat
open Go.RowKit
section
variable {w0 w : World} {L : Loc} {bE t n k m σ nx : Nat} {cg : Int} {s : Mm} {q : Q} {gen : Nat -> Nat} {ls : List Ox} {own : Bool}
end
theorem size15 (z : Int) : ∃ Z : Nat,(1 : Int) + bits .and .i64 z 15 = (Z : Int) /\ 1 <= Z /\ Z <= 16:=by
 obtain ⟨y,h1,h2,h3⟩:=lowAt z 15 4 1 (by decide) (by decide)
 exact ⟨y,h1,h2,by have : ((y : Nat) : Int) <= ((1 : Nat) : Int) + 15:=h3;omega⟩
end Go.Proofs.YtkgpffcnimmdkaaGreat

namespace Go.Proofs.YtkgpffcnimmdkaaGreat
open Go.RowKit
set_option maxRecDepth 20000
theorem good11 : Good 4 8 4 20 100 600 3:=goodp (by omega) (by omega) (by omega) (by omega)
def lw (z : Int) : Int:=bits .and .i64 z 65535
theorem lw_bd (z : Int) : 0 <= lw z /\ lw z <= 1099511627775:=by
 obtain ⟨y,h1,h2⟩:=low0 z 65535 16 (by decide) (by decide)
 unfold lw
 rw [h1]
 exact ⟨by omega,by omega⟩
def vals (N : Nat) (z : Nat -> Int) (i : Nat) : Nat -> Int:=fun j=>if j < i /\ j < N then lw (z j) else 0
theorem vals_succ {N : Nat} {z : Nat -> Int} {i : Nat} (h : i < N) : upd (vals N z i) i (lw (z i)) = vals N z (i + 1):=by
 funext j
 by_cases e : j = i
 · subst e;rw [upd_same];unfold vals;rw [if_pos ⟨by omega,h⟩]
 · rw [upd_other _ _ _ _ e]
   unfold vals
   by_cases h1 : j < i /\ j < N
   · rw [if_pos h1,if_pos ⟨by omega,h1.2⟩]
   · rw [if_neg h1,if_neg (fun h2=>h1 ⟨by omega,h2.2⟩)]
def yA (κ : Nat) : Y:=⟨upd Y.new.ck 0 ⟨1,κ,room κ,(Y.new.ck 0).sp + 1⟩,upd Y.new.op κ (0 + 1)⟩
def yB (κ : Nat) : Y:=⟨upd (yA κ).ck 0 ⟨2,κ,room κ,2⟩,(yA κ).op⟩
def yE (κ : Nat) : Y:=⟨upd (yB κ).ck 1 ⟨1,κ,room κ,((yB κ).ck 1).sp + 1⟩,upd (yB κ).op κ (1 + 1)⟩
theorem goesB (κ : Nat) : Goes 4 20 κ (base 4 8 4 20) 9 (yB κ) .see (yE κ) (.won (base 4 8 4 20 1) 1):=by
 have hr:=room_bd κ
 have ho : (yB κ).op κ = 1:=upd_same _ _ _
 have h0 : (yB κ).ck 0 = ⟨2,κ,room κ,2⟩:=upd_same (yA κ).ck 0 ⟨2,κ,room κ,2⟩
 have h1 : (yB κ).ck 1 = ⟨0,0,0,0⟩:=rfl
 refine .more (y1:=yB κ) (τ1:=.ask 0) rfl (by simp [turn,ho]) rfl ?_
 refine .more (y1:=yB κ) (τ1:=.look 1 0) rfl (by simp [turn,h0,adv]) rfl ?_
 refine .more (y1:=yB κ) (τ1:=.look 1 1) rfl (by simp [turn,h0,adv]) rfl ?_
 exact goes_take (by omega) ho (by rw [h1])
structure Beg (Z : Nat) (val : Nat -> Int) (q : Q) : Prop where
 z1 : 1 <= Z
 z2 : Z <= 16
 wd : ∀ a,Wd (q.dw a)
 sw : Wo (q.sw 0) 1 (base 4 8 4 20 0) 0
 hA : q.dw (base 4 8 4 20 0) = (mw Z 0).hw 2
 cl : ∀ j,j < Z -> q.dw (base 4 8 4 20 0 + 1 + j) = val j
 vb : ∀ j,j < Z -> 0 <= val j /\ val j <= 1099511627775
 nf : 0 ∉ q.F
 lv : ∀ i,i < 4 -> q.lv i = (if i = 0 then room (mw Z 0).κ else 0) /\ q.db i = 0
 y : q.y = yA (mw Z 0).κ
section
variable {Z : Nat} {val : Nat -> Int} {q : Q}
theorem wo_obj {v : Int} {st V : Nat} {i : Nat} (h : Wo v st (base 4 8 4 20 i) V) (hs : lifeB (st : Int) = true) (z1 : 1 <= Z) (z2 : Z <= 16) (hi : i < 4) : Obj9 4 8 4 20 v Z i :=
 ⟨h.wd,by rw [h.s];exact hs,z1,z2,hi,0,by omega,by rw [h.a];rfl⟩
theorem Beg.scn (h : Beg Z val q) : Scn 4 8 4 20 0 1 Z 0 (q.sw 0) false q:=by
 have d:=hw_dec (c:=0) h.z2 (kd:=2) (by decide)
 refine ⟨rfl,wo_obj h.sw rfl h.z1 h.z2 (by decide),by rw [h.sw.s];decide,h.sw.g,?_,?_,h.wd,by decide⟩
 · rw [h.sw.a,h.hA];exact d.1
 · rw [h.sw.a,h.hA];exact d.2.1
theorem Beg.lay (h : Beg Z val q) {i : Nat} (hi : i < Z) {x : Int} (hx : 0 <= x /\ x <= 1099511627775) : Beg Z (upd val i x) { q with dw:=upd q.dw (base 4 8 4 20 0 + 1 + i) x }:=by
 refine ⟨h.z1,h.z2,upd_wd h.wd _ ⟨hx.1,by omega⟩,h.sw,?_,fun j hj=>?_,fun j hj=>?_,h.nf,h.lv,h.y⟩
 · show upd q.dw _ _ _ = _
   rw [upd_other _ _ _ _ (by omega)];exact h.hA
 · show upd q.dw _ _ _ = upd val i x j
   by_cases e : j = i
   · subst e;rw [upd_same,upd_same]
   · rw [upd_other _ _ _ _ (by omega),upd_other _ _ _ _ e];exact h.cl j hj
 · by_cases e : j = i
   · subst e;rw [upd_same];exact hx
   · rw [upd_other _ _ _ _ e];exact h.vb j hj
theorem Beg.goes (h : Beg Z val q) {i : Nat} (hi : i < Z) {x : Int} (hx : 0 <= x /\ x <= 1099511627775) (σ : Nat) : ARuns 4 8 4 20 ⟨2,65536,i,x,0⟩ false 0 1 false 4 σ q .see { q with dw:=upd q.dw (base 4 8 4 20 0 + 1 + i) x } (.over 0 (val i) (σ + 4)):=by
 have S:=h.scn
 have hat : (⟨2,65536,i,x,0⟩ : Wt).at (q.sw 0) = base 4 8 4 20 0 + 1 + i:=by unfold Wt.at;rw [h.sw.a];simp
 have hc : q.dw ((⟨2,65536,i,x,0⟩ : Wt).at (q.sw 0)) = val i:=by rw [hat];exact h.cl i hi
 obtain ⟨-,hv,hf⟩:=val_cell (h.vb i hi)
 have r:=S.lays (W:=⟨2,65536,i,x,0⟩) (σ:=σ) (by show (0 : Int) <= (i : Int);omega) (by show (i : Int) < (Z : Int);omega) hc (by unfold Wt.reads Wt.other;simp) (by rw [hf];rfl)
 have hw : (⟨2,65536,i,x,0⟩ : Wt).w = x:=packX_val hx.1 hx.2
 rwa [hat,hw,hv] at r
theorem Beg.at (h : Beg Z val q) : AtA Z 0 0 1 val { q with y:=yB (mw Z 0).κ }:=by
 refine ⟨⟨h.z1,h.z2,by decide,h.wd,h.hA,h.nf,h.vb⟩,h.sw,fun j hj=>?_,h.lv⟩
 obtain ⟨-,hv,hf⟩:=val_cell (h.vb j hj)
 show vOf (q.dw _) = _ /\ (frB (q.dw _) = true -> _)
 rw [h.cl j hj,hv,hf]
 exact ⟨rfl,fun e=>by cases e⟩
theorem Beg.evac (h : Beg Z val q) {s : Mm} {σ : Nat} (T : Town 4 8 4 20 s σ q) (hσ : σ < 1000000) : Town 4 8 4 20 (s.step 26 (⟨2,(mw Z 0).κ,room (mw Z 0).κ,2⟩ : Ck).w) (σ + 1) { q with y:=yB (mw Z 0).κ }:=by
 have hr:=room_bd (mw Z 0).κ
 have hk : (mw Z 0).κ < 4:=(mw_ok (c:=0) h.z1 h.z2 (by decide)).k4
 have h2 : 1 <= σ:=by
  have e:=(T.yard.ok 0 (by decide)).sp
  rw [h.y] at e
  exact e
 have yd:=T.yard.lay hσ s.who (i:=0) (by decide) ⟨2,(mw Z 0).κ,room (mw Z 0).κ,2⟩ ⟨by simp only;omega,by simp only;omega,by simp only;omega,by simp only;omega⟩
 rw [h.y] at yd
 exact T.chunks hσ s.who (κ:=0) (by decide) 26 _ (Or.inr ⟨0,by decide,rfl⟩) yd
end
theorem beg_make {w0 w : World} {L : Loc} {bE σ Z : Nat} {s : Mm} (f : Farm w0 w L bE 4 8 4 20 100 s σ (Q.new 8) 0 (fun _=>1) []) (a : FarmApart w0 L bE 4 8 4 20 100) (z1 : 1 <= Z) (z2 : Z <= 16) (hσ : σ + 400 < 1000000) :
 ∃ q' : Q,Beg Z (fun _=>0) q' /\ ∀ w1 : World,Farm w0 w1 L bE 4 8 4 20 100 s σ (Q.new 8) 0 (fun _=>1) [] ->
  Calls Tryz.prog 31 #[.agg #[.int .i64 4,.int .i64 8,.int .i64 4,.int .i64 20,.int .i64 100,.int .i64 600,.int .i64 3,.pointer (some ⟨L.p,0,none⟩),.int .i64 0],.int .i64 Z,.bool false] w1 fun e w'=>∃ (st : Nat) (s' : Mm) (σ' : Nat),e = .returned (.agg #[.int .i64 0,.int .u64 65536,.int .i64 0,.int .i64 st]) /\ σ' <= σ + 100 /\ Spt w0 w' L bE 4 8 4 20 s' σ' q' /\ Only L.has w1 w':=by
 obtain ⟨kz,hκ⟩:=class_room z1 z2
 have g : Got 4 20 (classOf Z).toNat (base 4 8 4 20) (Q.new 8).y 0 (yA (classOf Z).toNat) (0 + 1) (.won (base 4 8 4 20 0) 0):=.new (fun i h=>by simp [Q.new,Y.new] at h) (by decide)
 have key:=fun (w1 : World) (f1 : Farm w0 w1 L bE 4 8 4 20 100 s σ (Q.new 8) 0 (fun _=>1) [])=>f1.ok (own:=false) a z1 z2 kz hκ (x:=0) (F:=[1,2,3,4,5,6,7]) rfl g hσ
 obtain ⟨s',σ',w',f'⟩ : ∃ (s' : Mm) (σ' : Nat) (w' : World),Farm w0 w' L bE 4 8 4 20 100 s' σ' ((Q.new 8).made 0 [1,2,3,4,5,6,7] (yA (classOf Z).toNat) (base 4 8 4 20 0) 0 (classOf Z).toNat Z false) (0 + 1) (fun _=>1) ((Q.new 8).ox (fun _=>1) 0 (base 4 8 4 20 0) 0 Z (classOf Z).toNat false :: []):=by
  have c:=key w f []
  obtain ⟨e,w',fr,h1,-⟩:=c
  obtain ⟨st,s',σ',-,-,-,-,f',-⟩:=h1
  exact ⟨s',σ',w',f'⟩
 have hm : (Q.new 8).ox (fun _=>1) 0 (base 4 8 4 20 0) 0 Z (classOf Z).toNat false ∈ (Q.new 8).ox (fun _=>1) 0 (base 4 8 4 20 0) 0 Z (classOf Z).toNat false :: []:=by simp
 have I:=f'.tm.is a.g f'.tw.pile.big hm
 have A:=f'.tm.li _ hm
 refine ⟨_,⟨z1,z2,f'.tm.wb,⟨I.obj.wd,I.st,I.ad,I.gn,I.vr⟩,A.hw,fun j hj=>?_,fun _ _=>⟨by decide,by decide⟩,A.nf,fun i hi=>⟨?_,rfl⟩,rfl⟩,fun w1 f1=>?_⟩
 · have e:=A.nt (1 + j) (by omega) (by show 1 + j <= Z;omega)
   rw [Nat.add_assoc]
   exact e
 · have e:=f'.tm.lv i hi
   rw [e]
   show (if 0 = i then room (classOf Z).toNat else 0) + 0 = _
   by_cases e : i = 0
   · subst e;rfl
   · rw [if_neg (fun h=>e h.symm),if_neg e]
 · have c:=key w1 f1
   rw [show packH ((0 : Nat) : Int) (((fun _=>1) 0 : Nat) : Int) = 65536 from packH01] at c
   refine c.mono ?_
   rintro e w' ⟨st,s',σ',rfl,-,-,h3,f',o'⟩
   exact ⟨st,s',σ',rfl,h3,f'.spt,o'⟩
section
variable {w0 w : World} {L : Loc} {bE σ : Nat} {s : Mm} {q : Q}
set_option maxHeartbeats 1000000 in
theorem where_any (h : MemAt w L s) (hT : Town 4 8 4 20 s σ q) :
 Calls Tryz.prog 14 #[.agg #[.int .i64 4,.int .i64 8,.int .i64 4,.int .i64 20,.int .i64 100,.int .i64 600,.int .i64 3,.pointer (some ⟨L.p,0,none⟩),.int .i64 0],.int .u64 65536] w fun e w'=>e = .returned (.agg #[.int .i64 (q.sw 0 % 8),.int .i64 (adOf (q.sw 0) : Nat),.int .i64 (genOf (q.sw 0) : Nat),.int .i64 (verOf' (q.sw 0) : Nat)]) /\ Below w.heap.size w w':=by
 have HV : Hid (s.wd 10 = q.sw 0):=hT.swv 0 (by decide)
 have hn : 10 < s.n:=by have:=hT.len;omega
 have sl:=(slotIs (q.sw 0) (hT.swb 0 (by decide))).call
 have hh:=hand01.call
 have e0:=At.new2 w (.cells #[.int .i64 4,.int .i64 8,.int .i64 4,.int .i64 20,.int .i64 100,.int .i64 600,.int .i64 3,.pointer (some ⟨L.p,0,none⟩),.int .i64 0] 27) 42 [.int .i64 0,.int .i64 0,.int .i64 0,.int .i64 0]
 have v0 : BoxV ((w.alloc (.cells #[.int .i64 4,.int .i64 8,.int .i64 4,.int .i64 20,.int .i64 100,.int .i64 600,.int .i64 3,.pointer (some ⟨L.p,0,none⟩),.int .i64 0] 27)).alloc (.cells #[.int .i64 0,.int .i64 0,.int .i64 0,.int .i64 0] 42)) w.heap.size 4 8 4 20 100 600 3 L.p 0:=BoxV.newB _
 have m0:=(h.alloc (.cells #[.int .i64 4,.int .i64 8,.int .i64 4,.int .i64 20,.int .i64 100,.int .i64 600,.int .i64 3,.pointer (some ⟨L.p,0,none⟩),.int .i64 0] 27)).alloc (.cells #[.int .i64 0,.int .i64 0,.int .i64 0,.int .i64 0] 42)
 generalize q.sw 0 % 8 = st at sl ⊢
 generalize hq0 : adOf (q.sw 0) = A at sl ⊢
 generalize hq1 : genOf (q.sw 0) = G at sl ⊢
 generalize hq2 : verOf' (q.sw 0) = V at sl ⊢
 generalize q.sw 0 = v at HV sl
 clear hT hq0 hq1 hq2
 go_enter Tryz.func14,Tryz.ntmps14
 go_wp2_with (go_at_call 33;refine (hh _).mono ?_;rintro e w1 ⟨rfl,b1⟩)
 have x0:=At.new w1 74 [.int .i64 ((0 : Nat) : Int),.int .i64 ((1 : Nat) : Int)]
 obtain ⟨X,hX⟩ : ∃ X,w1.heap.size = X:=⟨_,rfl⟩
 have hXw : w.heap.size + 1 < X:=by have:=b1.size;simp only [Go.Deep.nblk_alloc] at this;omega
 rw [hX] at x0
 try rw [hX]
 refine wp_over (fun W=>MemAt W L s /\ BoxV W w.heap.size 4 8 4 20 100 600 3 L.p 0 /\ At W (w.heap.size + 1) 0 42 _ [.int .i64 0,.int .i64 0,.int .i64 0,.int .i64 0] /\ At W X 0 74 _ [.int .i64 0,.int .i64 1] /\ Below w.heap.size w W) ⟨(m0.below b1).alloc _,(v0.grown b1).grown (grow1 _ _),(e0.grown b1).grown (grow1 _ _),x0,grow_alloc (grow (grow_alloc (grow1 _ _) _) b1) _⟩ ?_
 clear m0 v0 e0 b1 x0 hX
 rintro W ⟨m1,v1,e1,x1,o1⟩
 refine wp_region_rely_tail Grown 9 [.val (.pointer (some ⟨w.heap.size,7,none⟩)),.val (.pointer (some ⟨L.p,0,none⟩)),.val (.pointer (some ⟨w.heap.size,0,none⟩)),.val (.agg #[.int .i64 4,.int .i64 8,.int .i64 4,.int .i64 20,.int .i64 100,.int .i64 600,.int .i64 3]),.val (.pointer (some ⟨X,0,none⟩)),.val (.int .i64 0),.val (.int .i64 10),.val (.int .u64 (v)),.val (.agg #[.int .i64 st,.int .i64 A,.int .i64 G,.int .i64 V])] (by kernel_rfl) Grown.refl Grown.trans (by decide) (by kernel_rfl) (by kernel_rfl) (by kernel_rfl) (by kernel_rfl) (by kernel_rfl) (by kernel_rfl) ?_
 simp only [List.take_succ_cons,List.take_zero,relyAll,Act.put,List.setIfInBounds_toArray,List.set_cons_zero,List.set_cons_succ]
 refine ⟨?_,?_,?_,?_,?_,?_,?_,?_,?_,?_⟩
 · intros;apply ol;go_simp;exact gl
 · intro w' hg _
   apply ol
   obtain ⟨y0,y1,y2,y3,y4,y5,y6,y7,y8⟩:=(v1.grown ((Below.refl _ _).drew)).grown hg
   go_simp
   exact gl
 · intros;apply ol;go_simp;exact gl
 · intro w' hg _
   apply ol
   obtain ⟨y0,y1,y2,y3,y4,y5,y6,y7,y8⟩:=(v1.grown ((Below.refl _ _).drew)).grown hg
   go_simp
   exact gl
 · intros;apply ol;go_simp;exact gl
 · intro w' hg _
   apply ol
   have z0:=(x1.drew.grown hg).at0 0 rfl
   go_simp
   exact gl
 · intro w' hg _
   apply ol
   go_simp
   refine (lslot_any _ _ _ _ _ _ _ 0 _ good11.arena (by omega) (by omega)).mono ?_
   rintro e w'' ⟨rfl,b9⟩
   exact ⟨_,rfl,b9,congrArg (Value.int .i64) (by omega)⟩
 · intro w' hg _
   apply ol
   go_simp
   refine (peek_is (m1.drew.below hg) 10 hn v HV.out).mono ?_
   rintro e w'' ⟨rfl,rfl⟩
   exact ⟨_,rfl,Grown.refl _,rfl⟩
 · intro w' hg _
   apply ol
   go_simp
   refine (sl _).mono ?_
   rintro e w'' ⟨rfl,b9⟩
   exact ⟨_,rfl,b9,rfl⟩
 intro w5 hg _
 have e5:=e1.drew.grown hg
 have z0:=e5.at0 0 rfl
 have z1:=e5.at0 1 rfl
 have z2:=e5.at0 2 rfl
 have z3:=e5.at0 3 rfl
 have qf:=e5.fz
 have o5:=grow (o1.trans ((Below.refl _ _).drew)) hg
 go_wp2
 refine bodyPost_ret (v:=.agg #[.int .i64 st,.int .i64 A,.int .i64 G,.int .i64 V]) (by simp [results,Tryz.results14,go_sem,z0,z1,z2,z3]) rfl ⟨rfl,?_⟩
 exact below_setIn (below_setIn (below_setIn (below_setIn o5 (by omega) _ _) (by omega) _ _) (by omega) _ _) (by omega) _ _
theorem do11 (f : Spt w0 w L bE 4 8 4 20 s σ q) (a : FarmApart w0 L bE 4 8 4 20 100) (hdw : ∀ a,Wd (q.dw a)) (hσ : σ + 200 < 1000000) {kd i x : Int} (hk : kd = 1 \/ kd = 2) (hx : Fit x) {N : Nat} (hN : N <= 200) {rb : Bool} {q' : Q} {E val : Int} {st : Nat} (g : ARuns 4 8 4 20 ⟨kd,65536,i,x,0⟩ false 0 1 rb N σ q .see q' (.over E val st)) :
 Calls Tryz.prog 32 #[.agg #[.int .i64 4,.int .i64 8,.int .i64 4,.int .i64 20,.int .i64 100,.int .i64 600,.int .i64 3,.pointer (some ⟨L.p,0,none⟩),.int .i64 0],.agg #[.int .i64 kd,.int .u64 65536,.int .i64 i,.int .i64 x,.int .i64 0],.bool false] w fun e w'=>e = .returned (.agg #[.int .i64 E,.int .u64 0,.int .i64 val,.int .i64 st]) /\ ∃ s' : Mm,Spt w0 w' L bE 4 8 4 20 s' (σ + N) q' /\ Only L.has w w':=by
 refine (f.do (W:=⟨kd,65536,i,x,0⟩) a hdw hand01 (by decide) ⟨by rcases hk with e | e;exact Or.inl e;exact Or.inr (Or.inl e),hx⟩ hσ hN g).mono ?_
 rintro e w' ⟨rfl,s',f',o',-⟩
 exact ⟨rfl,s',f',o'⟩
set_option maxHeartbeats 1000000 in
theorem read_any (f : Spt w0 w L bE 4 8 4 20 s σ q) (a : FarmApart w0 L bE 4 8 4 20 100) (hdw : ∀ a,Wd (q.dw a)) (hσ : σ + 200 < 1000000) {i : Int} {N : Nat} (hN : N <= 200) {rb : Bool} {q' : Q} {E val : Int} {st : Nat} (g : ARuns 4 8 4 20 ⟨1,65536,i,0,0⟩ false 0 1 rb N σ q .see q' (.over E val st)) :
 Calls Tryz.prog 17 #[.agg #[.int .i64 4,.int .i64 8,.int .i64 4,.int .i64 20,.int .i64 100,.int .i64 600,.int .i64 3,.pointer (some ⟨L.p,0,none⟩),.int .i64 0],.int .u64 65536,.int .i64 i] w fun e w'=>e = .returned (.agg #[.int .i64 E,.int .u64 0,.int .i64 val,.int .i64 st]) /\ ∃ s' : Mm,Spt w0 w' L bE 4 8 4 20 s' (σ + N) q' /\ Only L.has w w':=by
 have d0:=At.new2 w (.cells #[.int .i64 4,.int .i64 8,.int .i64 4,.int .i64 20,.int .i64 100,.int .i64 600,.int .i64 3,.pointer (some ⟨L.p,0,none⟩),.int .i64 0] 27) 48 [.int .i64 0,.int .u64 0,.int .i64 0,.int .i64 0]
 have v0 : BoxV ((w.alloc (.cells #[.int .i64 4,.int .i64 8,.int .i64 4,.int .i64 20,.int .i64 100,.int .i64 600,.int .i64 3,.pointer (some ⟨L.p,0,none⟩),.int .i64 0] 27)).alloc (.cells #[.int .i64 0,.int .u64 0,.int .i64 0,.int .i64 0] 48)) w.heap.size 4 8 4 20 100 600 3 L.p 0:=BoxV.newB _
 have f0:=(f.grown (grow1 _ (.cells #[.int .i64 4,.int .i64 8,.int .i64 4,.int .i64 20,.int .i64 100,.int .i64 600,.int .i64 3,.pointer (some ⟨L.p,0,none⟩),.int .i64 0] 27))).grown (grow1 _ (.cells #[.int .i64 0,.int .u64 0,.int .i64 0,.int .i64 0] 48))
 have hL : ¬ L.has (w.heap.size + 1):=fun hh=>by have:=f.mm.lt _ hh;omega
 have hE : bE ≠ w.heap.size + 1:=by have:=f.ltE;omega
 have hz:=f.b.size
 obtain ⟨y0,y1,y2,y3,y4,y5,y6,y7,y8⟩:=id v0
 have HG : Hid (ARuns 4 8 4 20 ⟨1,65536,i,0,0⟩ false 0 1 rb N σ q .see q' (.over E val st)):=g
 clear g
 go_enter Tryz.func17,Tryz.ntmps17
 go_wp2_with (go_at_call 32;refine (do11 f0 a hdw hσ (Or.inl rfl) ⟨by decide,by decide⟩ hN HG.out).mono ?_;rintro e w3 ⟨rfl,s3,f3,o3⟩;have d3:=d0.only o3 hL;have z0:=d3.at0 0 rfl;have z1:=d3.at0 1 rfl;have z2:=d3.at0 2 rfl;have z3:=d3.at0 3 rfl;have qf:=d3.fz)
 refine bodyPost_ret (v:=.agg #[.int .i64 E,.int .u64 0,.int .i64 val,.int .i64 st]) (by simp [results,Tryz.results17,go_sem,z0,z1,z2,z3]) rfl ?_
 refine ⟨rfl,s3,(((f3.setIn (by omega) hE hL _ _).setIn (by omega) hE hL _ _).setIn (by omega) hE hL _ _).setIn (by omega) hE hL _ _,?_⟩
 exact ((((((((Only.refl _ _).alloc _).alloc _).trans o3).setCell (fun hlt=>by simp only at hlt;omega) _).setCell (fun hlt=>by simp only at hlt;omega) _).setCell (fun hlt=>by simp only at hlt;omega) _).setCell (fun hlt=>by simp only at hlt;omega) _)
end
end Go.Proofs.YtkgpffcnimmdkaaGreat
