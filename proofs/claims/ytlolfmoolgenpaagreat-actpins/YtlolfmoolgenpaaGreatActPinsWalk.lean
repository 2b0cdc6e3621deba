import Derived.Test.YtlolfmoolgenpaaGreatActAwake
import Derived.Test.YtlolfmoolgenpaaGreatActArgs
namespace Go.Proofs.YtlolfmoolgenpaaGreat
open Go.RowKit
set_option maxRecDepth 20000
structure PnI (who j : Nat) (A : As) : Prop where
 p4 : A.ph <= 4
 lo : A.ph <= 2 -> j = A.ph
 hi : 3 <= A.ph -> 3 <= j
 pn : A.pn who = if A.ph <= 1 then 0 else 1
theorem pnI_turn {t n k m who j : Nat} {cg : Int} {A : As} (h : PnI who j A) :
 (j = 0 /\ A.pn who = 0 /\ (asTurn t n k m cg who A).pn who = 0 /\ (asTurn t n k m cg who A).ph ≠ 5 /\ PnI who (j + 1) (asTurn t n k m cg who A)) \/
 (j = 1 /\ A.pn who = 0 /\ (asTurn t n k m cg who A).pn who = 1 /\ (asTurn t n k m cg who A).ph ≠ 5 /\ PnI who (j + 1) (asTurn t n k m cg who A)) \/
 (j = 2 /\ A.pn who = 1 /\ (asTurn t n k m cg who A).pn who = 1 /\ (asTurn t n k m cg who A).ph ≠ 5 /\ PnI who (j + 1) (asTurn t n k m cg who A)) \/
 (3 <= j /\ A.pn who = 1 /\ (asTurn t n k m cg who A).pn who = 1 /\ (asTurn t n k m cg who A).ph ≠ 5 /\ PnI who (j + 1) (asTurn t n k m cg who A)) \/
 (3 <= j /\ A.pn who = 1 /\ (asTurn t n k m cg who A).pn who = 0 /\ (asTurn t n k m cg who A).ph = 5):=by
 obtain ⟨σ,q,pn,ph,δ⟩:=A
 obtain ⟨p4,lo,hi,hp⟩:=h
 simp only at p4 lo hi hp
 match ph,p4 with
 | 0,_=>exact Or.inl ⟨lo (by omega),hp,hp,by show 1 ≠ 5;omega,by show 1 <= 4;omega,fun _=>by have:=lo (by omega);show j + 1 = 1;omega,fun h=>absurd h (by show ¬ 3 <= 1;omega),hp⟩
 | 1,_=>exact Or.inr (Or.inl ⟨lo (by omega),hp,upd_same _ _ _,by show 2 ≠ 5;omega,by show 2 <= 4;omega,fun _=>by have:=lo (by omega);show j + 1 = 2;omega,fun h=>absurd h (by show ¬ 3 <= 2;omega),upd_same _ _ _⟩)
 | 2,_=>exact Or.inr (Or.inr (Or.inl ⟨lo (by omega),hp,hp,by show 3 ≠ 5;omega,by show 3 <= 4;omega,fun h=>absurd h (by show ¬ 3 <= 2;omega),fun _=>by have:=lo (by omega);omega,hp⟩))
 | 3,_ =>
  have e : (asTurn t n k m cg who ⟨σ,q,pn,3,δ⟩).ph = 4 \/ (asTurn t n k m cg who ⟨σ,q,pn,3,δ⟩).ph = 3:=by
   show (if _ then 4 else 3) = 4 \/ (if _ then 4 else 3) = 3
   split
   · exact Or.inl rfl
   · exact Or.inr rfl
  have hp' : (asTurn t n k m cg who ⟨σ,q,pn,3,δ⟩).pn who = 1:=hp
  have hj:=hi (by omega)
  refine Or.inr (Or.inr (Or.inr (Or.inl ⟨hj,hp,hp',by omega,by omega,fun h=>by omega,fun _=>by omega,?_⟩)))
  rw [hp',if_neg (by omega)]
 | 4,_=>exact Or.inr (Or.inr (Or.inr (Or.inr ⟨hi (by omega),hp,upd_same _ _ _,rfl⟩)))
theorem boxv {w : World} {b P : Nat} {T : TypeId} {c : Array Value} {c0 c1 c2 c3 c4 c5 c6 who : Int} (h : At w b 0 T c [.int .i64 c0,.int .i64 c1,.int .i64 c2,.int .i64 c3,.int .i64 c4,.int .i64 c5,.int .i64 c6,.pointer (some ⟨P,0,none⟩),.int .i64 who]) : BoxV w b c0 c1 c2 c3 c4 c5 c6 P who :=
 ⟨h.at0 0 rfl,h.at0 1 rfl,h.at0 2 rfl,h.at0 3 rfl,h.at0 4 rfl,h.at0 5 rfl,h.at0 6 rfl,h.at0 7 rfl,h.at0 8 rfl⟩
theorem who4 (z : Int) : ∃ y : Nat,bits .and .i64 z 3 = (y : Int) /\ y < 4:=by
 obtain ⟨y,h1,h2⟩:=low0 z 3 2 (by decide) (by decide)
 exact ⟨y,h1,by omega⟩
theorem good15c : Good 4 6 4 40 100 600 3:=⟨by decide,by decide,by decide,by decide,by decide,by decide,by decide,by decide,by decide,by decide,by decide,by decide,by decide,by decide⟩
theorem AsRuns.turn {t n k m : Nat} {cg : Int} {who N : Nat} {A A' : As} (g : AsRuns t n k m cg who N A A') : A.ph ≠ 5 /\ (A.ph = 3 -> A.δ.need t n k m cg A.q) /\ (((asTurn t n k m cg who A).ph = 5 /\ N = 1) \/ ((asTurn t n k m cg who A).ph ≠ 5 /\ ∃ M,N = M + 1 /\ AsRuns t n k m cg who M (asTurn t n k m cg who A) A')):=by
 cases g with
 | one h5 hn ht h=>exact ⟨h5,hn,Or.inl ⟨by rw [ht];exact h,rfl⟩⟩
 | more h5 hn ht h g=>exact ⟨h5,hn,Or.inr ⟨by rw [ht];exact h,_,rfl,by rw [ht];exact g⟩⟩
theorem vil_pin {t n k m : Nat} {s : Mm} {σ : Nat} {q : Q} {pn : Nat -> Int} (V : Vil t n k m s σ q pn) {who : Nat} (hw : who < t) {x : Int} (hx : pn who = x) {w : World} {L : Loc} (M : MemAt w L s) :
 Calls Tryz.prog 15 #[.pointer (some ⟨L.p,0,none⟩),.int .i64 (6 + (who : Int))] w fun e w'=>e = .returned (.int .u64 x) /\ w' = w:=by
 have:=peek_is M (6 + who) (by have:=V.tw.len;omega) x (by rw [V.pn who hw];exact hx)
 rwa [show (((6 + who : Nat)) : Int) = 6 + (who : Int) by omega] at this
set_option maxRecDepth 20000 in
set_option maxHeartbeats 2000000 in
theorem actPins_any (X : Xa) (z : Int) (w : World) (hX : XaFit X) : Calls Tryz.prog 4 #[.agg #[.int .i64 X.kd,.int .i64 X.sz,.int .u64 X.nu,.int .i64 X.ix,.int .i64 X.vl,.int .i64 X.ol,.bool X.own],.int .i64 z] w fun e w'=>e = .returned (.bool true) /\ Below w.heap.size w w':=by
 obtain ⟨Y,ym,ysz,ynu,yix,yow,ycut⟩:=cut_any X
 obtain ⟨who,hwho,hw4⟩:=who4 z
 have ym':=ym
 unfold Xa.may at ym'
 simp only [Bool.and_eq_true,decide_eq_true_eq,fitsV] at ym'
 obtain ⟨⟨⟨ky1,ky5⟩,vy⟩,-⟩:=ym'
 obtain ⟨E,H,V,q',nx',gen',ls',F⟩:=fate Y good15c (town0 good15c (by decide)).pile (tame0 4 6 4 40) (covers0 6) (fun _ h=>by cases h) ky1 ky5 vy (by rw [ysz];exact hX.2.1) (by rw [ynu];exact hX.2.2.1) (1 + 2 * 6 + 3)
 obtain ⟨δ,N0,σ',δ',st,hN0,hs0,r0,-⟩:=F.ex
 clear F vy ky1 ky5 yix yow ysz ynu hX
 have r : Hid (AsRuns 4 6 4 40 100 who (N0 + 4) ⟨1 + 2 * 6,Q.new 6,fun _=>0,0,δ⟩ ⟨σ' + 1,q',upd (fun _=>0) who 0,5,δ'⟩):=r0.all
 generalize (⟨σ' + 1,q',upd (fun _=>0) who 0,5,δ'⟩ : As) = A' at r
 have HS : Hid (Starts 6 Y δ):=st
 have HY : Hid (Y.may = true):=ym
 clear st ym r0 hs0
 obtain ⟨kx,sx,nx,ix,vx,ox,ownx⟩:=X
 obtain ⟨ky,sy,ny,iy,vy,oy,owny⟩:=Y
 have ycut : ∀ w,Calls Tryz.prog 11 #[.agg #[.int .i64 kx,.int .i64 sx,.int .u64 nx,.int .i64 ix,.int .i64 vx,.int .i64 ox,.bool ownx]] w fun e w'=>e = .returned (.agg #[.int .i64 ky,.int .i64 sy,.int .u64 ny,.int .i64 iy,.int .i64 vy,.int .i64 oy,.bool owny]) /\ Below w.heap.size w w':=ycut
 have x0:=BoxX.new ⟨kx,sx,nx,ix,vx,ox,ownx⟩ w
 have ar:=fun w=>arena04_any good15c w
 go_enter Tryz.func4,Tryz.ntmps4
 go_wp2_with (first
  | (go_at_call 9;refine (ar _).mono ?_;rintro e w1 ⟨L,rfl,m1,b1,l1⟩;clear ar;obtain ⟨p1,pa⟩:=Hut.first good15c (by decide) m1 b1 l1;have x1:=(x0.grown b1).grown (grow1 _ (.cells #[.int .i64 ((4 : Nat) : Int),.int .i64 ((6 : Nat) : Int),.int .i64 ((4 : Nat) : Int),.int .i64 ((40 : Nat) : Int),.int .i64 100,.int .i64 600,.int .i64 3,.pointer (some ⟨L.p,0,none⟩),.int .i64 0] 27));have eA:=At.new w1 27 [.int .i64 ((4 : Nat) : Int),.int .i64 ((6 : Nat) : Int),.int .i64 ((4 : Nat) : Int),.int .i64 ((40 : Nat) : Int),.int .i64 100,.int .i64 600,.int .i64 3,.pointer (some ⟨L.p,0,none⟩),.int .i64 0];clear m1)
  | (go_at_call 10;refine (awake15_any _).mono ?_;rintro e w2 ⟨rfl,g2⟩;have p2:=p1.grown g2;have x2:=x1.grown g2;have hlx : ¬ w.heap.size = w1.heap.size:=(fun e=>by have:=pa.e0;rw [Go.Deep.nblk_alloc] at this;omega);have eA2:=eA.grown g2;clear p1 x1 eA;have y8:=eA2.at0 8 rfl;have ye:=eA2.fz;have t0:=x2.at0 0 rfl;have t1:=x2.at0 1 rfl;have t2:=x2.at0 2 rfl;have t3:=x2.at0 3 rfl;have t4:=x2.at0 4 rfl;have t5:=x2.at0 5 rfl;have t6:=x2.at0 6 rfl)
  | (go_at_call 11;refine (ycut _).mono ?_;rintro e w4 ⟨rfl,g4⟩;have eA4:=(eA2.put0 8 (.int .i64 (who : Int))).grown g4;have m4:=(p2.mm.setIn pa.e 8 (.int .i64 (who : Int))).below g4;have vl4:=p2.vl;have b4 : Below w.heap.size w w4:=grow (grow (grow_alloc (Below.refl _ _) _) (below_setIn p2.b pa.e0 _ _)) g4;clear p2 eA2 x2 t0 t1 t2 t3 t4 t5 t6 y8 ye)
  | (go_at_call 14;refine (new_th m4 HY.out HS.out 4 4 40 (1 + 2 * 6) (Q.new 6) (fun _=>0)).mono ?_;rintro e w5 ⟨B,rfl,b5,hBk,th⟩))
 have A0 : Hid (MemAt w5 L (Mm.laid 4 6 (arenaLen 4 6 4 40) 6) /\ ThAt 4 6 4 40 w5 L B (1 + 2 * 6) ⟨1 + 2 * 6,Q.new 6,fun _=>0,0,δ⟩ /\ BoxV w5 w1.heap.size ((4 : Nat) : Int) ((6 : Nat) : Int) ((4 : Nat) : Int) ((40 : Nat) : Int) 100 600 3 L.p who /\ Below w.heap.size w w5):=⟨m4.below b5,th,boxv (eA4.grown b5),grow b4 b5⟩
 have hlE : w1.heap.size < w4.heap.size:=eA4.lt
 have hBE : Hid (∀ x,B.has x -> w4.heap.size <= x):=hBk
 have hw0 : Hid (w.heap.size <= w4.heap.size):=b4.size
 have PA : Hid (FarmApart (w.alloc (.cells #[.int .i64 kx,.int .i64 sx,.int .u64 nx,.int .i64 ix,.int .i64 vx,.int .i64 ox,.bool ownx] 36)) L w1.heap.size 4 6 4 40 100):=pa
 have HV : Hid (Vil 4 6 4 40 (Mm.laid 4 6 (arenaLen 4 6 4 40) 6) (1 + 2 * 6) (Q.new 6) (fun _=>0)):=vl4
 clear m4 th eA4 b4 b5 hBk pa vl4 b1 l1 x0 g2 g4
 have y1:=fun N : Later w5=>(A0.out.2.2.1.grown N.below).c7
 have y2:=fun N : Later w5=>(A0.out.2.2.1.grown N.below).c8
 have hm:=fun N : Later w5=>A0.out.1.below N.below
 haveI:=Later.exists w5
 refine wp_region_later (by kernel_rfl) (by kernel_rfl) ?_
 repeat (go_big_quiet_step ((first
  | (go_at_call 16;exact Calls.later_same (lpin_any _ _ (by omega) (by omega)))
  | (go_at_call 15;exact Calls.later_same (vil_pin HV.out hw4 rfl (hm _))))))
 refine wpQuiet_nil ?_
 rintro _ ⟨nq,rfl⟩
 have A1 : Hid (MemAt nq.now L (Mm.laid 4 6 (arenaLen 4 6 4 40) 6) /\ ThAt 4 6 4 40 nq.now L B (1 + 2 * 6) ⟨1 + 2 * 6,Q.new 6,fun _=>0,0,δ⟩ /\ BoxV nq.now w1.heap.size ((4 : Nat) : Int) ((6 : Nat) : Int) ((4 : Nat) : Int) ((40 : Nat) : Int) 100 600 3 L.p who /\ Below w.heap.size w nq.now):=⟨A0.out.1.below nq.below,A0.out.2.1.grown nq.below,A0.out.2.2.1.grown nq.below,grow A0.out.2.2.2 nq.below⟩
 clear y1 y2 hm A0
 generalize nq.now = w6 at A1 ⊢
 go_wp2
 go_loopw [9] (fun i wr=>∃ (j N1 : Nat) (s1 : Mm) (A1 : As),i = .int .i64 j /\ j + N1 = N0 + 4 /\ A1.σ <= 1 + 2 * 6 + j /\ AsRuns 4 6 4 40 100 who N1 A1 A' /\ PnI who j A1 /\ (∀ a,Wd (A1.q.dw a)) /\ Vil 4 6 4 40 s1 A1.σ A1.q A1.pn /\ MemAt wr L s1 /\ ThAt 4 6 4 40 wr L B (1 + 2 * 6) A1 /\ BoxV wr w1.heap.size ((4 : Nat) : Int) ((6 : Nat) : Int) ((4 : Nat) : Int) ((40 : Nat) : Int) 100 600 3 L.p who /\ Below w.heap.size w wr) (fun i _=>300 - (intOf i).toNat)
 case atStart=>exact ⟨0,N0 + 4,_,_,rfl,by omega,Nat.le_refl _,r.out,⟨by show 0 <= 4;omega,fun _=>rfl,fun h=>absurd h (by show ¬ 3 <= 0;omega),rfl⟩,(tame0 4 6 4 40).wb,HV.out,A1.out⟩
 case round =>
  clear A1 r HV
  obtain ⟨j,N1,s1,A1,rfl,hj,hjs,gg,pI,wd,vl,mm,th,v,bw⟩:=hrel
  obtain ⟨g5,gn,gt⟩:=gg.turn
  have hN1:=gg.pos
  have hj3 : (j : Int) < 300:=by omega
  have wd1:=asTurn_wd (t:=4) (n:=6) (k:=4) (m:=40) (cg:=100) (who:=who) wd
  have hs1:=asTurn_σ (t:=4) (n:=6) (k:=4) (m:=40) (cg:=100) (who:=who) (A:=A1)
  have hstp:=fun w1 (b1 : Below wr.heap.size wr w1)=>act_step (mm.below b1) vl good15c (by omega) wd (th.grown b1) g5 gn who hw4 _ rfl
  have HP:=pnI_turn (t:=4) (n:=6) (k:=4) (m:=40) (cg:=100) pI
  have hst1:=vl.tw.pile.st
  have HW1 : Hid (∀ a,Wd ((asTurn 4 6 4 40 100 who A1).q.dw a)):=wd1
  have HT : Hid ((asTurn 4 6 4 40 100 who A1).ph = 5 /\ N1 = 1 \/ (asTurn 4 6 4 40 100 who A1).ph ≠ 5 /\ ∃ M,N1 = M + 1 /\ AsRuns 4 6 4 40 100 who M (asTurn 4 6 4 40 100 who A1) A'):=gt
  have HS1 : Hid ((asTurn 4 6 4 40 100 who A1).σ <= A1.σ + 1):=hs1
  have HJS : Hid (A1.σ <= 1 + 2 * 6 + j):=hjs
  have HVL : Hid (Vil 4 6 4 40 s1 A1.σ A1.q A1.pn):=vl
  have HST : Hid (s1.steps = A1.σ):=hst1
  clear wd1 gt hs1 hjs wd g5 gn pI vl hst1
  generalize hA2 : asTurn 4 6 4 40 100 who A1 = A2 at hstp HP HW1 HT HS1
  clear hA2
  generalize hσ1 : A1.σ = σ1 at HS1 HST HJS
  generalize hσ2 : A2.σ = σ2 at HS1
  have H2 : Hid (A2.σ = σ2):=hσ2
  have H1 : Hid (A1.σ = σ1):=hσ1
  clear hσ1 hσ2
  have hσb : (σ1 : Int) < 1000:=by have:=HJS.out;omega
  have hσ0 : (0 : Int) <= (σ1 : Int):=by omega
  have hgt : decide ((σ1 : Int) + 1 < (σ2 : Int)) = false:=decide_eq_false (by have:=HS1.out;omega)
  rcases HP with ⟨hj0,hp,hp2,h5,pI2⟩ | ⟨hj0,hp,hp2,h5,pI2⟩ | ⟨hj0,hp,hp2,h5,pI2⟩ | ⟨hj0,hp,hp2,h5,pI2⟩ | ⟨hj0,hp,hp2,h5⟩
  · have HPN : Hid (A1.pn who = 0):=hp
    have HPN2 : Hid (A2.pn who = 0):=hp2
    have H5 : Hid (A2.ph ≠ 5):=h5
    have HPI : Hid (PnI who (j + 1) A2):=pI2
    rw [beq_eq_false_iff_ne.2 h5] at hstp
    clear hp hp2 h5 pI2
    have e0 : decide ((3 : Int) <= (j : Int)) = false:=decide_eq_false (by omega)
    have e1 : decide ((0 : Int) < (j : Int)) = false:=decide_eq_false (by omega)
    have e2 : decide (0 < j) = false:=decide_eq_false (by omega)
    have HJ0 : Hid (j = 0):=hj0
    clear hj0
    go_wp2
    have y0:=fun N : Later wr=>(v.grown N.below).c0
    have y1:=fun N : Later wr=>(v.grown N.below).c1
    have y2:=fun N : Later wr=>(v.grown N.below).c2
    have y3:=fun N : Later wr=>(v.grown N.below).c3
    have y4:=fun N : Later wr=>(v.grown N.below).c4
    have y5:=fun N : Later wr=>(v.grown N.below).c5
    have y6:=fun N : Later wr=>(v.grown N.below).c6
    have y7:=fun N : Later wr=>(v.grown N.below).c7
    have y8:=fun N : Later wr=>(v.grown N.below).c8
    have hm:=fun N : Later wr=>mm.below N.below
    haveI:=Later.exists wr
    refine wp_region_later (by kernel_rfl) (by kernel_rfl) ?_
    repeat (go_big_quiet_step ((first
     | (go_at_call 16;exact Calls.later_same (lpin_any _ _ (by omega) (by omega)))
     | (go_at_call 17;exact Calls.later (now_any (hm _) _ _ _ _ _ _ _ _ σ1 HST.out))
     | (go_at_call 15;exact Calls.later_same (vil_pin HVL.out hw4 HPN.out (hm _))))))
    refine wpQuiet_nil ?_
    rintro _ ⟨nq,rfl⟩
    have hstq:=hstp nq.now nq.below
    have v7:=v.grown nq.below
    have bw7 : Below w.heap.size w nq.now:=grow bw nq.below
    clear y0 y1 y2 y3 y4 y5 y6 y7 y8 hm hstp v bw mm th
    generalize nq.now = w7 at hstq v7 bw7 ⊢
    obtain ⟨y0,y1,y2,y3,y4,y5,y6,y7,y8⟩:=id v7
    go_wp2_with (go_at_call 18;refine hstq.mono ?_;rintro e w8 ⟨rfl,s8,m8,vl8,th8,o8⟩)
    have hBL : ¬ LB L B w1.heap.size:=fun hh=>hh.elim PA.out.e (fun e=>by have:=hBE.out _ e;omega)
    have v8:=v7.only o8 hBL
    have bw8 : Below w.heap.size w w8:=bw7.trans (o8.below bw7.size (fun i hi hs=>by
     rcases hs with h | h
     · have:=PA.out.l0 i h;rw [Go.Deep.nblk_alloc] at this;omega
     · have:=hBE.out i h;have:=hw0.out;omega))
    have HV8 : Hid (Vil 4 6 4 40 s8 A2.σ A2.q A2.pn):=vl8
    have HS8 : Hid (s8.steps = σ2):=by rw [<- H2.out];exact vl8.tw.pile.st
    clear y0 y1 y2 y3 y4 y5 y6 y7 y8 hstq v7 bw7 o8 vl8
    have y0:=fun N : Later w8=>(v8.grown N.below).c0
    have y1:=fun N : Later w8=>(v8.grown N.below).c1
    have y2:=fun N : Later w8=>(v8.grown N.below).c2
    have y3:=fun N : Later w8=>(v8.grown N.below).c3
    have y4:=fun N : Later w8=>(v8.grown N.below).c4
    have y5:=fun N : Later w8=>(v8.grown N.below).c5
    have y6:=fun N : Later w8=>(v8.grown N.below).c6
    have y7:=fun N : Later w8=>(v8.grown N.below).c7
    have y8:=fun N : Later w8=>(v8.grown N.below).c8
    have hm:=fun N : Later w8=>m8.below N.below
    haveI:=Later.exists w8
    refine wp_region_later (by kernel_rfl) (by kernel_rfl) ?_
    repeat (go_big_quiet_step ((first
     | (go_at_call 16;exact Calls.later_same (lpin_any _ _ (by omega) (by omega)))
     | (go_at_call 17;exact Calls.later (now_any (hm _) _ _ _ _ _ _ _ _ σ2 HS8.out))
     | (go_at_call 15;exact Calls.later_same (vil_pin HV8.out hw4 HPN2.out (hm _))))))
    refine wpQuiet_nil ?_
    rintro _ ⟨nr,rfl⟩
    have A9 : Hid (MemAt nr.now L s8 /\ ThAt 4 6 4 40 nr.now L B (1 + 2 * 6) A2 /\ BoxV nr.now w1.heap.size ((4 : Nat) : Int) ((6 : Nat) : Int) ((4 : Nat) : Int) ((40 : Nat) : Int) 100 600 3 L.p who /\ Below w.heap.size w nr.now):=⟨m8.below nr.below,th8.grown nr.below,v8.grown nr.below,grow bw8 nr.below⟩
    clear y0 y1 y2 y3 y4 y5 y6 y7 y8 hm m8 th8 v8 bw8
    generalize nr.now = w9 at A9 ⊢
    go_wp2
    go_roundw
    case rel =>
     rcases HT.out with ⟨e,-⟩ | ⟨-,M,hM,g2⟩
     · exact absurd e H5.out
     · exact ⟨j + 1,M,s8,A2,by go_num,by omega,by have:=HS1.out;have:=HJS.out;have:=H2.out;omega,g2,HPI.out,HW1.out,HV8.out,A9.out⟩
    case measure=>simp [intOf];omega
  · have HPN : Hid (A1.pn who = 0):=hp
    have HPN2 : Hid (A2.pn who = 1):=hp2
    have H5 : Hid (A2.ph ≠ 5):=h5
    have HPI : Hid (PnI who (j + 1) A2):=pI2
    rw [beq_eq_false_iff_ne.2 h5] at hstp
    clear hp hp2 h5 pI2
    have e0 : decide ((3 : Int) <= (j : Int)) = false:=decide_eq_false (by omega)
    have e1 : decide ((0 : Int) < (j : Int)) = true:=decide_eq_true (by omega)
    have e2 : decide (0 < j) = true:=decide_eq_true (by omega)
    have HJ0 : Hid (j = 1):=hj0
    clear hj0
    go_wp2
    have y0:=fun N : Later wr=>(v.grown N.below).c0
    have y1:=fun N : Later wr=>(v.grown N.below).c1
    have y2:=fun N : Later wr=>(v.grown N.below).c2
    have y3:=fun N : Later wr=>(v.grown N.below).c3
    have y4:=fun N : Later wr=>(v.grown N.below).c4
    have y5:=fun N : Later wr=>(v.grown N.below).c5
    have y6:=fun N : Later wr=>(v.grown N.below).c6
    have y7:=fun N : Later wr=>(v.grown N.below).c7
    have y8:=fun N : Later wr=>(v.grown N.below).c8
    have hm:=fun N : Later wr=>mm.below N.below
    haveI:=Later.exists wr
    refine wp_region_later (by kernel_rfl) (by kernel_rfl) ?_
    repeat (go_big_quiet_step ((first
     | (go_at_call 16;exact Calls.later_same (lpin_any _ _ (by omega) (by omega)))
     | (go_at_call 17;exact Calls.later (now_any (hm _) _ _ _ _ _ _ _ _ σ1 HST.out))
     | (go_at_call 15;exact Calls.later_same (vil_pin HVL.out hw4 HPN.out (hm _))))))
    refine wpQuiet_nil ?_
    rintro _ ⟨nq,rfl⟩
    have hstq:=hstp nq.now nq.below
    have v7:=v.grown nq.below
    have bw7 : Below w.heap.size w nq.now:=grow bw nq.below
    clear y0 y1 y2 y3 y4 y5 y6 y7 y8 hm hstp v bw mm th
    generalize nq.now = w7 at hstq v7 bw7 ⊢
    obtain ⟨y0,y1,y2,y3,y4,y5,y6,y7,y8⟩:=id v7
    go_wp2_with (go_at_call 18;refine hstq.mono ?_;rintro e w8 ⟨rfl,s8,m8,vl8,th8,o8⟩)
    have hBL : ¬ LB L B w1.heap.size:=fun hh=>hh.elim PA.out.e (fun e=>by have:=hBE.out _ e;omega)
    have v8:=v7.only o8 hBL
    have bw8 : Below w.heap.size w w8:=bw7.trans (o8.below bw7.size (fun i hi hs=>by
     rcases hs with h | h
     · have:=PA.out.l0 i h;rw [Go.Deep.nblk_alloc] at this;omega
     · have:=hBE.out i h;have:=hw0.out;omega))
    have HV8 : Hid (Vil 4 6 4 40 s8 A2.σ A2.q A2.pn):=vl8
    have HS8 : Hid (s8.steps = σ2):=by rw [<- H2.out];exact vl8.tw.pile.st
    clear y0 y1 y2 y3 y4 y5 y6 y7 y8 hstq v7 bw7 o8 vl8
    have y0:=fun N : Later w8=>(v8.grown N.below).c0
    have y1:=fun N : Later w8=>(v8.grown N.below).c1
    have y2:=fun N : Later w8=>(v8.grown N.below).c2
    have y3:=fun N : Later w8=>(v8.grown N.below).c3
    have y4:=fun N : Later w8=>(v8.grown N.below).c4
    have y5:=fun N : Later w8=>(v8.grown N.below).c5
    have y6:=fun N : Later w8=>(v8.grown N.below).c6
    have y7:=fun N : Later w8=>(v8.grown N.below).c7
    have y8:=fun N : Later w8=>(v8.grown N.below).c8
    have hm:=fun N : Later w8=>m8.below N.below
    haveI:=Later.exists w8
    refine wp_region_later (by kernel_rfl) (by kernel_rfl) ?_
    repeat (go_big_quiet_step ((first
     | (go_at_call 16;exact Calls.later_same (lpin_any _ _ (by omega) (by omega)))
     | (go_at_call 17;exact Calls.later (now_any (hm _) _ _ _ _ _ _ _ _ σ2 HS8.out))
     | (go_at_call 15;exact Calls.later_same (vil_pin HV8.out hw4 HPN2.out (hm _))))))
    refine wpQuiet_nil ?_
    rintro _ ⟨nr,rfl⟩
    have A9 : Hid (MemAt nr.now L s8 /\ ThAt 4 6 4 40 nr.now L B (1 + 2 * 6) A2 /\ BoxV nr.now w1.heap.size ((4 : Nat) : Int) ((6 : Nat) : Int) ((4 : Nat) : Int) ((40 : Nat) : Int) 100 600 3 L.p who /\ Below w.heap.size w nr.now):=⟨m8.below nr.below,th8.grown nr.below,v8.grown nr.below,grow bw8 nr.below⟩
    clear y0 y1 y2 y3 y4 y5 y6 y7 y8 hm m8 th8 v8 bw8
    generalize nr.now = w9 at A9 ⊢
    go_wp2
    go_roundw
    case rel =>
     rcases HT.out with ⟨e,-⟩ | ⟨-,M,hM,g2⟩
     · exact absurd e H5.out
     · exact ⟨j + 1,M,s8,A2,by go_num,by omega,by have:=HS1.out;have:=HJS.out;have:=H2.out;omega,g2,HPI.out,HW1.out,HV8.out,A9.out⟩
    case measure=>simp [intOf];omega
  · have HPN : Hid (A1.pn who = 1):=hp
    have HPN2 : Hid (A2.pn who = 1):=hp2
    have H5 : Hid (A2.ph ≠ 5):=h5
    have HPI : Hid (PnI who (j + 1) A2):=pI2
    rw [beq_eq_false_iff_ne.2 h5] at hstp
    clear hp hp2 h5 pI2
    have e0 : decide ((3 : Int) <= (j : Int)) = false:=decide_eq_false (by omega)
    have e1 : decide ((0 : Int) < (j : Int)) = true:=decide_eq_true (by omega)
    have e2 : decide (0 < j) = true:=decide_eq_true (by omega)
    have HJ0 : Hid (j = 2):=hj0
    clear hj0
    go_wp2
    have y0:=fun N : Later wr=>(v.grown N.below).c0
    have y1:=fun N : Later wr=>(v.grown N.below).c1
    have y2:=fun N : Later wr=>(v.grown N.below).c2
    have y3:=fun N : Later wr=>(v.grown N.below).c3
    have y4:=fun N : Later wr=>(v.grown N.below).c4
    have y5:=fun N : Later wr=>(v.grown N.below).c5
    have y6:=fun N : Later wr=>(v.grown N.below).c6
    have y7:=fun N : Later wr=>(v.grown N.below).c7
    have y8:=fun N : Later wr=>(v.grown N.below).c8
    have hm:=fun N : Later wr=>mm.below N.below
    haveI:=Later.exists wr
    refine wp_region_later (by kernel_rfl) (by kernel_rfl) ?_
    repeat (go_big_quiet_step ((first
     | (go_at_call 16;exact Calls.later_same (lpin_any _ _ (by omega) (by omega)))
     | (go_at_call 17;exact Calls.later (now_any (hm _) _ _ _ _ _ _ _ _ σ1 HST.out))
     | (go_at_call 15;exact Calls.later_same (vil_pin HVL.out hw4 HPN.out (hm _))))))
    refine wpQuiet_nil ?_
    rintro _ ⟨nq,rfl⟩
    have hstq:=hstp nq.now nq.below
    have v7:=v.grown nq.below
    have bw7 : Below w.heap.size w nq.now:=grow bw nq.below
    clear y0 y1 y2 y3 y4 y5 y6 y7 y8 hm hstp v bw mm th
    generalize nq.now = w7 at hstq v7 bw7 ⊢
    obtain ⟨y0,y1,y2,y3,y4,y5,y6,y7,y8⟩:=id v7
    go_wp2_with (go_at_call 18;refine hstq.mono ?_;rintro e w8 ⟨rfl,s8,m8,vl8,th8,o8⟩)
    have hBL : ¬ LB L B w1.heap.size:=fun hh=>hh.elim PA.out.e (fun e=>by have:=hBE.out _ e;omega)
    have v8:=v7.only o8 hBL
    have bw8 : Below w.heap.size w w8:=bw7.trans (o8.below bw7.size (fun i hi hs=>by
     rcases hs with h | h
     · have:=PA.out.l0 i h;rw [Go.Deep.nblk_alloc] at this;omega
     · have:=hBE.out i h;have:=hw0.out;omega))
    have HV8 : Hid (Vil 4 6 4 40 s8 A2.σ A2.q A2.pn):=vl8
    have HS8 : Hid (s8.steps = σ2):=by rw [<- H2.out];exact vl8.tw.pile.st
    clear y0 y1 y2 y3 y4 y5 y6 y7 y8 hstq v7 bw7 o8 vl8
    have y0:=fun N : Later w8=>(v8.grown N.below).c0
    have y1:=fun N : Later w8=>(v8.grown N.below).c1
    have y2:=fun N : Later w8=>(v8.grown N.below).c2
    have y3:=fun N : Later w8=>(v8.grown N.below).c3
    have y4:=fun N : Later w8=>(v8.grown N.below).c4
    have y5:=fun N : Later w8=>(v8.grown N.below).c5
    have y6:=fun N : Later w8=>(v8.grown N.below).c6
    have y7:=fun N : Later w8=>(v8.grown N.below).c7
    have y8:=fun N : Later w8=>(v8.grown N.below).c8
    have hm:=fun N : Later w8=>m8.below N.below
    haveI:=Later.exists w8
    refine wp_region_later (by kernel_rfl) (by kernel_rfl) ?_
    repeat (go_big_quiet_step ((first
     | (go_at_call 16;exact Calls.later_same (lpin_any _ _ (by omega) (by omega)))
     | (go_at_call 17;exact Calls.later (now_any (hm _) _ _ _ _ _ _ _ _ σ2 HS8.out))
     | (go_at_call 15;exact Calls.later_same (vil_pin HV8.out hw4 HPN2.out (hm _))))))
    refine wpQuiet_nil ?_
    rintro _ ⟨nr,rfl⟩
    have A9 : Hid (MemAt nr.now L s8 /\ ThAt 4 6 4 40 nr.now L B (1 + 2 * 6) A2 /\ BoxV nr.now w1.heap.size ((4 : Nat) : Int) ((6 : Nat) : Int) ((4 : Nat) : Int) ((40 : Nat) : Int) 100 600 3 L.p who /\ Below w.heap.size w nr.now):=⟨m8.below nr.below,th8.grown nr.below,v8.grown nr.below,grow bw8 nr.below⟩
    clear y0 y1 y2 y3 y4 y5 y6 y7 y8 hm m8 th8 v8 bw8
    generalize nr.now = w9 at A9 ⊢
    go_wp2
    go_roundw
    case rel =>
     rcases HT.out with ⟨e,-⟩ | ⟨-,M,hM,g2⟩
     · exact absurd e H5.out
     · exact ⟨j + 1,M,s8,A2,by go_num,by omega,by have:=HS1.out;have:=HJS.out;have:=H2.out;omega,g2,HPI.out,HW1.out,HV8.out,A9.out⟩
    case measure=>simp [intOf];omega
  · have HPN : Hid (A1.pn who = 1):=hp
    have HPN2 : Hid (A2.pn who = 1):=hp2
    have H5 : Hid (A2.ph ≠ 5):=h5
    have HPI : Hid (PnI who (j + 1) A2):=pI2
    rw [beq_eq_false_iff_ne.2 h5] at hstp
    clear hp hp2 h5 pI2
    have e0 : decide ((3 : Int) <= (j : Int)) = true:=decide_eq_true (by omega)
    have e1 : decide ((0 : Int) < (j : Int)) = true:=decide_eq_true (by omega)
    have e2 : decide (0 < j) = true:=decide_eq_true (by omega)
    go_wp2
    have y0:=fun N : Later wr=>(v.grown N.below).c0
    have y1:=fun N : Later wr=>(v.grown N.below).c1
    have y2:=fun N : Later wr=>(v.grown N.below).c2
    have y3:=fun N : Later wr=>(v.grown N.below).c3
    have y4:=fun N : Later wr=>(v.grown N.below).c4
    have y5:=fun N : Later wr=>(v.grown N.below).c5
    have y6:=fun N : Later wr=>(v.grown N.below).c6
    have y7:=fun N : Later wr=>(v.grown N.below).c7
    have y8:=fun N : Later wr=>(v.grown N.below).c8
    have hm:=fun N : Later wr=>mm.below N.below
    haveI:=Later.exists wr
    refine wp_region_later (by kernel_rfl) (by kernel_rfl) ?_
    repeat (go_big_quiet_step ((first
     | (go_at_call 16;exact Calls.later_same (lpin_any _ _ (by omega) (by omega)))
     | (go_at_call 17;exact Calls.later (now_any (hm _) _ _ _ _ _ _ _ _ σ1 HST.out))
     | (go_at_call 15;exact Calls.later_same (vil_pin HVL.out hw4 HPN.out (hm _))))))
    refine wpQuiet_nil ?_
    rintro _ ⟨nq,rfl⟩
    have hstq:=hstp nq.now nq.below
    have v7:=v.grown nq.below
    have bw7 : Below w.heap.size w nq.now:=grow bw nq.below
    clear y0 y1 y2 y3 y4 y5 y6 y7 y8 hm hstp v bw mm th
    generalize nq.now = w7 at hstq v7 bw7 ⊢
    obtain ⟨y0,y1,y2,y3,y4,y5,y6,y7,y8⟩:=id v7
    go_wp2_with (go_at_call 18;refine hstq.mono ?_;rintro e w8 ⟨rfl,s8,m8,vl8,th8,o8⟩)
    have hBL : ¬ LB L B w1.heap.size:=fun hh=>hh.elim PA.out.e (fun e=>by have:=hBE.out _ e;omega)
    have v8:=v7.only o8 hBL
    have bw8 : Below w.heap.size w w8:=bw7.trans (o8.below bw7.size (fun i hi hs=>by
     rcases hs with h | h
     · have:=PA.out.l0 i h;rw [Go.Deep.nblk_alloc] at this;omega
     · have:=hBE.out i h;have:=hw0.out;omega))
    have HV8 : Hid (Vil 4 6 4 40 s8 A2.σ A2.q A2.pn):=vl8
    have HS8 : Hid (s8.steps = σ2):=by rw [<- H2.out];exact vl8.tw.pile.st
    clear y0 y1 y2 y3 y4 y5 y6 y7 y8 hstq v7 bw7 o8 vl8
    have y0:=fun N : Later w8=>(v8.grown N.below).c0
    have y1:=fun N : Later w8=>(v8.grown N.below).c1
    have y2:=fun N : Later w8=>(v8.grown N.below).c2
    have y3:=fun N : Later w8=>(v8.grown N.below).c3
    have y4:=fun N : Later w8=>(v8.grown N.below).c4
    have y5:=fun N : Later w8=>(v8.grown N.below).c5
    have y6:=fun N : Later w8=>(v8.grown N.below).c6
    have y7:=fun N : Later w8=>(v8.grown N.below).c7
    have y8:=fun N : Later w8=>(v8.grown N.below).c8
    have hm:=fun N : Later w8=>m8.below N.below
    haveI:=Later.exists w8
    refine wp_region_later (by kernel_rfl) (by kernel_rfl) ?_
    repeat (go_big_quiet_step ((first
     | (go_at_call 16;exact Calls.later_same (lpin_any _ _ (by omega) (by omega)))
     | (go_at_call 17;exact Calls.later (now_any (hm _) _ _ _ _ _ _ _ _ σ2 HS8.out))
     | (go_at_call 15;exact Calls.later_same (vil_pin HV8.out hw4 HPN2.out (hm _))))))
    refine wpQuiet_nil ?_
    rintro _ ⟨nr,rfl⟩
    have A9 : Hid (MemAt nr.now L s8 /\ ThAt 4 6 4 40 nr.now L B (1 + 2 * 6) A2 /\ BoxV nr.now w1.heap.size ((4 : Nat) : Int) ((6 : Nat) : Int) ((4 : Nat) : Int) ((40 : Nat) : Int) 100 600 3 L.p who /\ Below w.heap.size w nr.now):=⟨m8.below nr.below,th8.grown nr.below,v8.grown nr.below,grow bw8 nr.below⟩
    clear y0 y1 y2 y3 y4 y5 y6 y7 y8 hm m8 th8 v8 bw8
    generalize nr.now = w9 at A9 ⊢
    go_wp2
    go_roundw
    case rel =>
     rcases HT.out with ⟨e,-⟩ | ⟨-,M,hM,g2⟩
     · exact absurd e H5.out
     · exact ⟨j + 1,M,s8,A2,by go_num,by omega,by have:=HS1.out;have:=HJS.out;have:=H2.out;omega,g2,HPI.out,HW1.out,HV8.out,A9.out⟩
    case measure=>simp [intOf];omega
  · have HPN : Hid (A1.pn who = 1):=hp
    have HPN2 : Hid (A2.pn who = 0):=hp2
    have H5 : Hid (A2.ph = 5):=h5
    rw [h5,beq_self_eq_true] at hstp
    clear hp hp2 h5
    have e0 : decide ((3 : Int) <= (j : Int)) = true:=decide_eq_true (by omega)
    have e1 : decide ((0 : Int) < (j : Int)) = true:=decide_eq_true (by omega)
    have e2 : decide (0 < j) = true:=decide_eq_true (by omega)
    go_wp2
    have y0:=fun N : Later wr=>(v.grown N.below).c0
    have y1:=fun N : Later wr=>(v.grown N.below).c1
    have y2:=fun N : Later wr=>(v.grown N.below).c2
    have y3:=fun N : Later wr=>(v.grown N.below).c3
    have y4:=fun N : Later wr=>(v.grown N.below).c4
    have y5:=fun N : Later wr=>(v.grown N.below).c5
    have y6:=fun N : Later wr=>(v.grown N.below).c6
    have y7:=fun N : Later wr=>(v.grown N.below).c7
    have y8:=fun N : Later wr=>(v.grown N.below).c8
    have hm:=fun N : Later wr=>mm.below N.below
    haveI:=Later.exists wr
    refine wp_region_later (by kernel_rfl) (by kernel_rfl) ?_
    repeat (go_big_quiet_step ((first
     | (go_at_call 16;exact Calls.later_same (lpin_any _ _ (by omega) (by omega)))
     | (go_at_call 17;exact Calls.later (now_any (hm _) _ _ _ _ _ _ _ _ σ1 HST.out))
     | (go_at_call 15;exact Calls.later_same (vil_pin HVL.out hw4 HPN.out (hm _))))))
    refine wpQuiet_nil ?_
    rintro _ ⟨nq,rfl⟩
    have hstq:=hstp nq.now nq.below
    have v7:=v.grown nq.below
    have bw7 : Below w.heap.size w nq.now:=grow bw nq.below
    clear y0 y1 y2 y3 y4 y5 y6 y7 y8 hm hstp v bw mm th
    generalize nq.now = w7 at hstq v7 bw7 ⊢
    obtain ⟨y0,y1,y2,y3,y4,y5,y6,y7,y8⟩:=id v7
    go_wp2_with (go_at_call 18;refine hstq.mono ?_;rintro e w8 ⟨rfl,s8,m8,vl8,th8,o8⟩)
    have hBL : ¬ LB L B w1.heap.size:=fun hh=>hh.elim PA.out.e (fun e=>by have:=hBE.out _ e;omega)
    have v8:=v7.only o8 hBL
    have bw8 : Below w.heap.size w w8:=bw7.trans (o8.below bw7.size (fun i hi hs=>by
     rcases hs with h | h
     · have:=PA.out.l0 i h;rw [Go.Deep.nblk_alloc] at this;omega
     · have:=hBE.out i h;have:=hw0.out;omega))
    have HV8 : Hid (Vil 4 6 4 40 s8 A2.σ A2.q A2.pn):=vl8
    have HS8 : Hid (s8.steps = σ2):=by rw [<- H2.out];exact vl8.tw.pile.st
    clear y0 y1 y2 y3 y4 y5 y6 y7 y8 hstq v7 bw7 o8 vl8
    have y0:=fun N : Later w8=>(v8.grown N.below).c0
    have y1:=fun N : Later w8=>(v8.grown N.below).c1
    have y2:=fun N : Later w8=>(v8.grown N.below).c2
    have y3:=fun N : Later w8=>(v8.grown N.below).c3
    have y4:=fun N : Later w8=>(v8.grown N.below).c4
    have y5:=fun N : Later w8=>(v8.grown N.below).c5
    have y6:=fun N : Later w8=>(v8.grown N.below).c6
    have y7:=fun N : Later w8=>(v8.grown N.below).c7
    have y8:=fun N : Later w8=>(v8.grown N.below).c8
    have hm:=fun N : Later w8=>m8.below N.below
    haveI:=Later.exists w8
    refine wp_region_later (by kernel_rfl) (by kernel_rfl) ?_
    repeat (go_big_quiet_step ((first
     | (go_at_call 16;exact Calls.later_same (lpin_any _ _ (by omega) (by omega)))
     | (go_at_call 17;exact Calls.later (now_any (hm _) _ _ _ _ _ _ _ _ σ2 HS8.out))
     | (go_at_call 15;exact Calls.later_same (vil_pin HV8.out hw4 HPN2.out (hm _))))))
    refine wpQuiet_nil ?_
    rintro _ ⟨nr,rfl⟩
    have A9 : Hid (MemAt nr.now L s8 /\ ThAt 4 6 4 40 nr.now L B (1 + 2 * 6) A2 /\ BoxV nr.now w1.heap.size ((4 : Nat) : Int) ((6 : Nat) : Int) ((4 : Nat) : Int) ((40 : Nat) : Int) 100 600 3 L.p who /\ Below w.heap.size w nr.now):=⟨m8.below nr.below,th8.grown nr.below,v8.grown nr.below,grow bw8 nr.below⟩
    clear y0 y1 y2 y3 y4 y5 y6 y7 y8 hm m8 th8 v8 bw8
    generalize nr.now = w9 at A9 ⊢
    go_wp2
    go_ret
    exact ⟨rfl,A9.out.2.2.2⟩
end Go.Proofs.YtlolfmoolgenpaaGreat
