import Derived.Test.YtpbghmeikcphnaaGreatLstBegun
import Derived.Test.YtpbghmeikcphnaaGreatLstAwake
namespace Go.Proofs.YtpbghmeikcphnaaGreat
open Go.RowKit
theorem hands (nu : Int) : (nu < 65536 \/ 4294967296 <= nu) \/ ∃ x G : Nat,Y0 nu x G /\ x <= 65535 /\ 1 <= G /\ G <= 65535 /\ nu = (x : Int) + G * 65536:=by
 by_cases h1 : nu < 65536 \/ 4294967296 <= nu
 · exact Or.inl h1
 · refine Or.inr ⟨(nu % 65536).toNat,(nu / 65536).toNat,⟨by omega,by omega,by omega,by omega⟩,by omega,by omega,by omega,?_⟩
   omega
structure Dies (n : Nat) (q : Q) (δ : Dw) : Prop where
 ov : δ.ZO = false
 nd : δ.need 4 n 12 40 100 q
 go : ∀ σ,∃ δ',Y4 4 n 12 40 100 σ q δ = (q,δ') /\ δ'.ZO = true /\ ∀ σ0 σ' E H V St,δ'.told σ0 σ' E H V St -> E = 3
theorem KF {n : Nat} {F : List Nat} (H : Int) (hH : Wd H) (hne : H ≠ 65536) : ∃ δ,Y5 n ⟨3,0,H,1,0,0,true⟩ δ /\ Dies n (qH 4 n 12 40 F) δ:=by
 have F0 : Fit 0:=⟨by decide,by decide⟩
 have bad : Q5 n H -> ∃ δ,Y5 n ⟨3,0,H,1,0,0,true⟩ δ /\ Dies n (qH 4 n 12 40 F) δ:=fun hb =>
  ⟨_,Y5.zB (by show (3 : Int) <= 3;decide) (by show (3 : Int) <= 5;decide) hb,rfl,trivial,fun σ=>⟨_,rfl,rfl,fun σ0 σ' E H V St td=>td.1⟩⟩
 rcases hands H with hb | ⟨x,G,hh,hx,g1,g2,e⟩
 · exact bad ⟨hH,Or.inl hb⟩
 · by_cases L6 : x < n
   · have dead : (Y6 ((qH 4 n 12 40 F).sw x % 8) && decide (Zv ((qH 4 n 12 40 F).sw x) = G)) = false:=by
      by_cases x0 : x = 0
      · have hg : G ≠ 1:=fun eg=>hne (by rw [e,x0,eg];decide)
        have : Zv ((qH 4 n 12 40 F).sw x) = 1:=by
         rw [x0,EC]
         have hb:=Y3 ((base 4 n 12 40 0 : Nat) : Int) 20 1048576 (by decide)
         unfold Zw Zv
         rw [show cut 1 3 = 1 by decide,show cut 1 16 = 1 by decide,show cut 0 22 = 0 by decide]
         generalize cut ((base 4 n 12 40 0 : Nat) : Int) 20 = c at hb
         omega
        rw [this,decide_eq_false (Ne.symm hg),Bool.and_false]
      · rw [zS x0]
        rw [show Y6 ((8388608 : Int) % 8) = false by decide,Bool.false_and]
     refine ⟨_,Y5.ac (by show (3 : Int) <= 3;decide) (by show (3 : Int) <= 5;decide) F0 hh L6,rfl,?_,fun σ=>?_⟩
     · intro hl hg
       exfalso
       rw [hl,hg] at dead
       simp at dead
     · refine ⟨.ac ⟨1,H,1,0,0⟩ true x G (.over 3 0 (σ + 1)),?_,rfl,fun σ0 σ' E H V St td=>td.1⟩
       simp only [Y4,YY]
       rw [dead];rfl
   · exact bad ⟨hH,Or.inr ⟨x,G,hh,by omega⟩⟩
theorem Ez {n σ : Nat} {q : Q} {δ : Dw} {pn : Nat -> Int} (D : Dies n q δ) : ∃ A',Yi 4 n 12 40 100 0 5 ⟨σ,q,pn,0,δ⟩ A' /\ ∀ σ0 σ' E H V St,A'.δ.told σ0 σ' E H V St -> E = 3:=by
 obtain ⟨δ',e1,e2,e3⟩:=D.go (σ + 1 + 1 + 1)
 have t3 : Xw 4 n 12 40 100 0 ⟨σ + 1 + 1 + 1,q,upd pn 0 1,3,δ⟩ = ⟨σ + 1 + 1 + 1 + δ.cost,q,upd pn 0 1,4,δ'⟩:=by
  show As.mk _ _ _ _ _ = _
  rw [e1]
  show As.mk _ _ _ (if δ'.ZO then 4 else 3) _ = _
  rw [e2];rfl
 exact ⟨_,(.more (A1:=⟨σ + 1,q,pn,1,δ⟩) (by show 0 ≠ 5;decide) (fun e=>absurd e (by show ¬ 0 = 3;decide)) rfl (by show 1 ≠ 5;decide) (.more (A1:=⟨σ + 1 + 1,q,upd pn 0 1,2,δ⟩) (by show 1 ≠ 5;decide) (fun e=>absurd e (by show ¬ 1 = 3;decide)) rfl (by show 2 ≠ 5;decide) (.more (A1:=⟨σ + 1 + 1 + 1,q,upd pn 0 1,3,δ⟩) (by show 2 ≠ 5;decide) (fun e=>absurd e (by show ¬ 2 = 3;decide)) rfl (by show 3 ≠ 5;decide) (.more (A1:=⟨σ + 1 + 1 + 1 + δ.cost,q,upd pn 0 1,4,δ'⟩) (by show 3 ≠ 5;decide) (fun _=>D.nd) t3 (by show 4 ≠ 5;decide) (.one (by show 4 ≠ 5;decide) (fun e=>absurd e (by show ¬ 4 = 3;decide)) rfl rfl))))),e3⟩
section
variable {n K : Nat} {w : World} {L : Loc} {s : Mm} {b σ0 N : Nat} {B : Bk} {A A' : As} {S : Lr} {kd key H : Int}
theorem Nl (mm : Z8 w L s) (vl : Wi 4 n 12 40 s A.σ A.q A.pn) (hG : Good 4 n 12 40 100 600 3) (hσ : A.σ < 1000000) (wd : ∀ a,Wd (A.q.dw a)) (th : Yz 4 n 12 40 w L B σ0 A) (g : Yi 4 n 12 40 100 0 N A A') (td : ∀ σ0 σ' E H V St,A'.δ.told σ0 σ' E H V St -> E = 3) (lr : ZG w b (pP B.A 0) S) (ok : S.ok) (h0 : S.nx = 0) (nb : ¬ L.has b) (nB : ¬ B.has b) :
 (∀ w1,Below w.heap.size w w1 -> Calls Tryz.prog 33 #[pP B.A 0,Nr 4 n 12 40 100 600 3 L.p 0] w1 fun e w'=>∃ d,e = .returned (.bool d) /\ ZG w' b (pP B.A 0) S /\ ∃ s' A1,d = (A1.ph == 5) /\ Z8 w' L s' /\ Wi 4 n 12 40 s' A1.σ A1.q A1.pn /\ Yz 4 n 12 40 w' L B σ0 A1 /\ Only (LB L B) w w' /\ ZG w' b (pP B.A 0) S /\ (∀ a,Wd (A1.q.dw a)) /\ A1.σ <= A.σ + 1 /\ (A1.ph = 5 -> A1 = A') /\ (A1.ph ≠ 5 -> ∃ N2,N = N2 + 1 /\ Yi 4 n 12 40 100 0 N2 A1 A'))
 /\ (∀ w6,(∃ s' A1,true = (A1.ph == 5) /\ Z8 w6 L s' /\ Wi 4 n 12 40 s' A1.σ A1.q A1.pn /\ Yz 4 n 12 40 w6 L B σ0 A1 /\ Only (LB L B) w w6 /\ ZG w6 b (pP B.A 0) S /\ (∀ a,Wd (A1.q.dw a)) /\ A1.σ <= A.σ + 1 /\ (A1.ph = 5 -> A1 = A') /\ (A1.ph ≠ 5 -> ∃ N2,N = N2 + 1 /\ Yi 4 n 12 40 100 0 N2 A1 A')) -> ∀ w1,Below w6.heap.size w6 w1 -> Calls Tryz.prog 34 #[pP B.A 0] w1 fun e w'=>∃ E H V St,e = .returned (.agg #[iV E,.int .u64 H,iV V,iV St]) /\ Below w1.heap.size w1 w' /\ E = 3)
 /\ (∀ E H V St,E = 3 -> ∀ w1,ZG w1 b (.pointer none) S -> Calls Tryz.prog 35 #[pP b 0,.agg #[iV E,.int .u64 H,iV V,iV St]] w1 fun e w'=>e = .returned (.tuple #[]) /\ ZG w' b (.pointer none) (S.go E H V St) /\ Only (B1 b) w1 w'):=by
 refine ⟨fun w1 g1=>?_,?_,?_⟩
 · cases g with
   | one h5 hn ht h =>
    refine (TZ (mm.below g1) vl hG hσ wd (th.grown g1) h5 hn 0 (by decide) _ ht).mono ?_
    rintro e w' ⟨rfl,s',m',v',Ro,o'⟩
    have KE:=(lr.grown g1).only o' (fun hh=>hh.elim nb nB)
    exact ⟨_,rfl,KE,s',_,rfl,m',v',Ro,(Only.ZZ g1).trans o',KE,by rw [<- ht];exact SQ wd,by rw [<- ht];exact SN,fun _=>rfl,fun hne=>absurd h hne⟩
   | more h5 hn ht h g' =>
    refine (TZ (mm.below g1) vl hG hσ wd (th.grown g1) h5 hn 0 (by decide) _ ht).mono ?_
    rintro e w' ⟨rfl,s',m',v',Ro,o'⟩
    have KE:=(lr.grown g1).only o' (fun hh=>hh.elim nb nB)
    exact ⟨_,rfl,KE,s',_,rfl,m',v',Ro,(Only.ZZ g1).trans o',KE,by rw [<- ht];exact SQ wd,by rw [<- ht];exact SN,fun e=>absurd e h,fun _=>⟨_,rfl,g'⟩⟩
 · rintro w6 ⟨s',A1,e5,m',v',Ro,o',KE,wd',hs,hA,-⟩ w1 g1
   have e5 : A1.ph = 5:=by simpa using e5.symm
   obtain ⟨E,H,V,St,t1,hc⟩:=Q4 Ro e5
   refine (hc w1 g1).mono ?_
   rintro e w' ⟨rfl,g2⟩
   exact ⟨E,H,V,St,rfl,g2,td _ _ E H V St (by rw [<- hA e5];exact t1)⟩
 · rintro E H V St rfl w1 lr1
   exact Nk lr1 _ _ _ _ ok (by omega) (fun _ e=>absurd e (by decide))
def A8 (n : Nat) (L : Loc) (kd key H : Int) (σ0 : Nat) (A0 A' : As) (W : World) (b j : Nat) (w1 : World) : Prop :=
 ∃ s A a N1,Z8 w1 L s /\ Wi 4 n 12 40 s A.σ A.q A.pn /\ (∀ a,Wd (A.q.dw a)) /\ Yi 4 n 12 40 100 0 N1 A A' /\ j + N1 = 5 /\ A.σ <= σ0 + j /\ Only L.has W w1 /\ ZG w1 b (vH a) (I8 kd key H) /\ (a = none -> A = A0) /\ (∀ R,a = some R -> Yz 4 n 12 40 w1 L R.B σ0 A /\ ¬ R.B.has b /\ ∀ x,R.B.has x -> W.heap.size <= x)
theorem Ey {q : Q} {pn : Nat -> Int} {δ : Dw} {W : World} {j : Nat} (hG : Good 4 n 12 40 100 600 3) (hσ : σ0 + 10 < 1000000) (k0 : kd ≠ 0) (st : Y5 n ⟨3,0,H,1,0,0,true⟩ δ) (td : ∀ σ0 σ' E H V St,A'.δ.told σ0 σ' E H V St -> E = 3) (hb : W.heap.size <= b) (nb : ¬ L.has b) (I : A8 n L kd key H σ0 ⟨σ0,q,pn,0,δ⟩ A' W b j w) :
 Calls Tryz.prog 15 #[pP b 0,Nr 4 n 12 40 100 600 3 L.p 0] w fun e w'=>(e = .returned (.bool false) /\ j + 1 < 6 /\ A8 n L kd key H σ0 ⟨σ0,q,pn,0,δ⟩ A' W b (j + 1) w') \/ (e = .returned (.bool true) /\ ∃ S,(S.cE = 3 /\ Only L.has W w' /\ ∃ s',Z8 w' L s') /\ ZG w' b (.pointer none) S /\ S.kd ≠ 0 /\ S.nx = 13):=by
 obtain ⟨s,A,a,N1,mm,vl,wd,g,hj,hs,on,lr,ha,hR⟩:=I
 have ok : (I8 kd key H).ok:=⟨by show (0 : Int) <= 0;decide,by show (0 : Int) < 8589934592;decide,by show (0 : Int) <= 0;decide,by show (0 : Int) < 8589934592;decide,by show (0 : Int) <= 0;decide,by show (0 : Int) <= 13;decide⟩
 have n13 : (I8 kd key H).nx ≠ 13:=by show (0 : Int) ≠ 13;decide
 have hN:=g.pos
 have uH : ∀ H' V St,(I8 kd key H).go 3 H' V St = (I8 kd key H).end_ 3 0 St:=fun H' V St=>rfl
 have fin : ∀ {B : Bk} {w0 : World} {e : Ending} {w' : World},(∀ x,B.has x -> W.heap.size <= x) -> ¬ B.has b -> Only L.has W w0 -> Rl (fun d w6=>∃ s' A1,d = (A1.ph == 5) /\ Z8 w6 L s' /\ Wi 4 n 12 40 s' A1.σ A1.q A1.pn /\ Yz 4 n 12 40 w6 L B σ0 A1 /\ Only (LB L B) w0 w6 /\ ZG w6 b (pP B.A 0) (I8 kd key H) /\ (∀ a,Wd (A1.q.dw a)) /\ A1.σ <= A.σ + 1 /\ (A1.ph = 5 -> A1 = A') /\ (A1.ph ≠ 5 -> ∃ N2,N1 = N2 + 1 /\ Yi 4 n 12 40 100 0 N2 A1 A')) (fun _ E _ _ _=>E = 3) b (I8 kd key H) e w' -> (e = .returned (.bool false) /\ j + 1 < 6 /\ A8 n L kd key H σ0 ⟨σ0,q,pn,0,δ⟩ A' W b (j + 1) w') \/ (e = .returned (.bool true) /\ ∃ S,(S.cE = 3 /\ Only L.has W w' /\ ∃ s',Z8 w' L s') /\ ZG w' b (.pointer none) S /\ S.kd ≠ 0 /\ S.nx = 13):=fun {B w0 e w'} hB nB qp O=>by
  obtain ⟨d,w6,⟨s',A1,e5,m',v',Ro,o',KE,wd',hs',hA,hN'⟩,hh⟩:=O
  have rq : Only L.has W w6:=qp.grow o' (fun i hi hh=>hh.elim id (fun hb'=>by have:=hB i hb';omega))
  rcases hh with ⟨rfl,rfl,rfl⟩ | ⟨rfl,E,H',V,St,rfl,rfl,lr2,o2⟩
  · have e5 : A1.ph ≠ 5:=by simpa using e5.symm
    obtain ⟨N2,e1,g'⟩:=hN' e5
    exact Or.inl ⟨rfl,by omega,s',A1,some ⟨B,A1.δ,0⟩,N2,m',v',wd',g',by omega,by omega,rq,KE,(fun e=>by cases e),fun R e=>by injection e with e;subst e;exact ⟨Ro,nB,hB⟩⟩
  · refine Or.inr ⟨by rw [uH];rfl,_,⟨?_,rq.grow o2 (fun i hi e=>by have : i = b:=e;omega),s',m'.only o2 (fun x hx e=>nb (by rw [<- show x = b from e];exact hx))⟩,lr2,?_,?_⟩
    · rw [uH];rfl
    · rw [uH];exact k0
    · rw [uH];rfl
 cases a with
 | some R =>
  obtain ⟨th,nB,hB⟩:=hR R rfl
  obtain ⟨hS,hD,hO⟩:=Nl mm vl hG (by omega) wd th g td lr ok rfl nb nB
  refine (PM (P:=L.p) (4 : Nat) n (12 : Nat) (40 : Nat) 100 600 3 (0 : Nat) lr k0 n13 _ (fun _ E _ _ _=>E = 3) hS hD (fun E H V St w6 _=>hO E H V St)).mono ?_
  intro e w' O
  exact fin hB nB on O
 | none =>
  obtain rfl:=ha rfl
  have may : Xa.may ⟨3,0,H,1,0,0,true⟩ = true:=SB (by decide) (by decide) (by decide) (by decide) (by decide) (by decide)
  have hbl:=lr.lt
  have Df : ∀ (B : Bk) (w2 : World),(∀ y,B.has y -> w.heap.size <= y) -> Yz 4 n 12 40 w2 L B σ0 ⟨σ0,q,pn,0,δ⟩ -> Below w.heap.size w w2 -> ¬ B.has b /\ Only L.has W (w2.setCell ⟨b,4,none⟩ (pP B.A 0)) /\ _:=fun B w2 b2 b3 b5=>by
   have nB : ¬ B.has b:=fun hx=>by have:=b2 b hx;omega
   have o2 : Only (B1 b) w2 (w2.setCell ⟨b,4,none⟩ (pP B.A 0)):=Zu (Only.refl _ _) _ _
   have lr2 : ZG (w2.setCell ⟨b,4,none⟩ (pP B.A 0)) b (pP B.A 0) (I8 kd key H):=by
    obtain ⟨c,hl⟩:=lr.grown b5
    exact ⟨_,hl.ZP 4 _⟩
   exact ⟨nB,(on.trans (Only.ZZ b5)).grow o2 (fun i hi e=>by have : i = b:=e;omega),Nl (N:=N1) ((mm.below b5).ZX nb _ _) vl hG (by omega) wd (b3.only o2 (fun x hx e=>nB (by rw [<- show x = b from e];exact hx))) g td lr2 ok rfl nb nB⟩
  refine (PL (P:=L.p) (4 : Nat) n (12 : Nat) (40 : Nat) 100 600 3 (0 : Nat) lr k0 n13 (fun A w2=>∃ B : Bk,A = B.A /\ (∀ y,B.has y -> w.heap.size <= y) /\ Yz 4 n 12 40 w2 L B σ0 ⟨σ0,q,pn,0,δ⟩ /\ Below w.heap.size w w2) (fun A w2 d w6=>∃ B : Bk,A = B.A /\ (∀ y,B.has y -> w.heap.size <= y) /\ Yz 4 n 12 40 w2 L B σ0 ⟨σ0,q,pn,0,δ⟩ /\ Below w.heap.size w w2 /\ ∃ s' A1,d = (A1.ph == 5) /\ Z8 w6 L s' /\ Wi 4 n 12 40 s' A1.σ A1.q A1.pn /\ Yz 4 n 12 40 w6 L B σ0 A1 /\ Only (LB L B) (w2.setCell ⟨b,4,none⟩ (pP B.A 0)) w6 /\ ZG w6 b (pP B.A 0) (I8 kd key H) /\ (∀ a,Wd (A1.q.dw a)) /\ A1.σ <= σ0 + 1 /\ (A1.ph = 5 -> A1 = A') /\ (A1.ph ≠ 5 -> ∃ N2,N1 = N2 + 1 /\ Yi 4 n 12 40 100 0 N2 A1 A')) (fun _ _ _ E _ _ _=>E = 3) (fun w1 g1=>?_) ?_).mono ?_
  · refine (QL (lr.grown g1) ok n13 (fun e=>absurd e (by show ¬ (0 : Int) = 7;decide)) (fun e=>absurd e (by show ¬ (0 : Int) = 8;decide)) (fun A w2 w'=>∃ B : Bk,A = B.A /\ (∀ y,B.has y -> w2.heap.size <= y) /\ Yz 4 n 12 40 w' L B σ0 ⟨σ0,q,pn,0,δ⟩ /\ Below w2.heap.size w2 w') (fun w2 g2=>?_)).mono ?_
    · refine (LC (mm.below (grow g1 g2)) may st 4 12 40 σ0 q pn).mono ?_
      rintro e w' ⟨B,rfl,b1,b2,b3⟩
      exact ⟨B.A,rfl,B,rfl,b2,b3,b1⟩
    · rintro e w' ⟨A,w2,rfl,g2,B,rfl,b2,b3,b5⟩
      exact ⟨_,rfl,grow g2 b5,B,rfl,fun y hy=>Nat.le_trans (grow g1 g2).size (b2 y hy),b3,grow g1 (grow g2 b5)⟩
  · rintro A w2 ⟨B,rfl,b2,b3,b5⟩
    obtain ⟨nB,oW,hS,-,-⟩:=Df B w2 b2 b3 b5
    refine ⟨fun w1 g1=>(hS w1 g1).mono ?_,?_,?_⟩
    · rintro e w' ⟨d,rfl,KE,z⟩
      exact ⟨d,rfl,KE,B,rfl,b2,b3,b5,z⟩
    · rintro w6 ⟨B',eB,c2,c3,c5,z⟩ w1 g1
      obtain ⟨-,-,-,hD,-⟩:=Df B' w2 c2 c3 c5
      rw [eB]
      exact hD w6 z w1 g1
    · rintro E H V St w6 - y w1 lr1
      obtain ⟨-,-,-,-,hO⟩:=Df B w2 b2 b3 b5
      exact hO E H V St y w1 lr1
  · rintro e w' ⟨A,w2,-,d,w6,⟨B,eB,c2,c3,c5,z⟩,hh⟩
    obtain ⟨nB,oW,-⟩:=Df B w2 c2 c3 c5
    exact fin (fun x hx=>Nat.le_trans on.size (c2 x hx)) nB oW ⟨d,w6,z,hh⟩
theorem Bg {F : List Nat} {σ : Nat} (R : Rest 4 n L 0 97 1 w s σ (qH 4 n 12 40 F) (fun _=>0) (I9 4 n 12 40) (fun _=>.nil) 0 [0] EI (fun _=>none)) (h1 : 1 <= n) (h2 : n <= 40) (hσ : σ <= 600) (hk : kd = 1 \/ kd = 2 \/ kd = 3) (k0 : 0 <= key) (k1 : key < 1073741824) (hH : Wd H) (hne : H ≠ 65536) :
 Calls Tryz.prog 11 #[Nr 4 n 12 40 100 600 3 L.p 0,.int .u64 H,iV kd,iV key] w fun e w'=>∃ Hh V St : Int,e = .returned (.agg #[iV 3,.int .u64 Hh,iV V,iV St]) /\ Only L.has w w':=by
 obtain ⟨δ,st,D⟩:=KF (n:=n) (F:=F) H hH hne
 obtain ⟨A',g,td⟩:=Ez (σ:=σ) (pn:=fun _=>0) D
 have hm:=R.mm
 have hG:=I4 h1 h2
 refine (Np (4 : Nat) n (12 : Nat) (40 : Nat) 100 600 3 (0 : Nat) L.p kd key H L.has (fun b hb=>UT hm hb) 6 (by decide) (I7 hk k0 k1) (fun W b j w1=>A8 n L kd key H σ ⟨σ,qH 4 n 12 40 F,fun _=>0,0,δ⟩ A' W b j w1 /\ ¬ L.has b) (fun W b S w1=>S.cE = 3 /\ Only L.has W w1 /\ ∃ s',Z8 w1 L s') (fun W w1 b gW g1 hb lr=>⟨⟨?_,UT (R.mm.below gW) hb⟩,by decide⟩) (fun W j b w1 hb I=>?_) (fun W j b w1 I=>?_) (fun W b S w1 D=>D.2.1)).mono ?_
 · exact ⟨s,_,none,5,(R.mm.below gW).below g1,R.vl,R.lc.m.g.wd,g,rfl,Nat.le_refl _,Only.ZZ g1,lr,fun _=>rfl,fun R e=>by cases e⟩
 · refine (Ey hG (by omega) (by omega) st td hb I.2 I.1).mono ?_
   rintro e w' (⟨e1,e2,e3⟩ | h)
   · exact Or.inl ⟨e1,e2,e3,I.2⟩
   · exact Or.inr h
 · obtain ⟨s',A,a,N1,-,-,-,-,-,-,on,-⟩:=I.1
   exact on
 · rintro e w' ⟨W,b,S,w1,⟨e3,on,s',m'⟩,gW,rfl,o1⟩
   exact ⟨S.cH,S.cV,S.cS,by rw [e3],((Only.ZZ gW).trans on).grow o1 (fun i hi e=>by have : i = w.heap.size + 1:=e;omega)⟩
end
end Go.Proofs.YtpbghmeikcphnaaGreat
namespace Go.Proofs.YtpbghmeikcphnaaGreat
open Go.RowKit
set_option maxRecDepth 20000
theorem Xl (c0 c1 c2 c3 c4 c5 c6 who : Int) (P : Nat) (w : World) : Calls Tryz.prog 15 #[.pointer none,.agg #[.int .i64 c0,.int .i64 c1,.int .i64 c2,.int .i64 c3,.int .i64 c4,.int .i64 c5,.int .i64 c6,.pointer (some ⟨P,0,none⟩),.int .i64 who]] w fun e w'=>e = .returned (.bool true) /\ Below w.heap.size w w':=by
 go_enter Tryz.func15,Tryz.ntmps15
 go_wp2_with (go_at_call 31;refine (Nv _).mono ?_;rintro e w1 ⟨rfl,rfl⟩)
 go_ret
 exact ⟨rfl,Z7 (Below.refl _ _) _⟩
set_option maxRecDepth 20000 in
set_option maxHeartbeats 4000000 in
theorem OL (kd ky hd : Int) (h0 : 0 <= hd) (h9 : hd <= 18446744073709551615) (w : World) : Calls Tryz.prog 7 #[.int .i64 kd,.int .i64 ky,.int .u64 hd] w fun e w'=>e = .returned (.bool true) /\ Below w.heap.size w w':=by
 have bg:=fun w=>PN (n:=4) (by decide) (by decide) w
 have ff : ∀ (a1 a2 a3 a4 : Value) (w : World),(Instr.field 37 (.agg #[a1,a2,a3,a4]) 0).run Tryz.prog w = .ok a1 w:=fun a1 a2 a3 a4 w=>by kernel_rfl
 have HW : Hid (Wd hd):=⟨h0,h9⟩
 clear h0 h9
 by_cases h1 : (1 : Int) <= kd
 · by_cases h2 : kd <= 3
   · by_cases h3 : (0 : Int) <= ky
     · by_cases h4 : ky < 1073741824
       · have hm : Xu kd ky = true:=by simp [Xu,h1,h2,h3,h4]
         have hck:=fun w=>Yg kd ky w
         rw [hm] at hck
         have ry:=fun w=>Nu kd ky hd hm w
         clear hm
         by_cases he : hd = 65536
         · replace he : (hd == 65536) = true:=by simpa using he
           go_enter Tryz.func7,Tryz.ntmps7
           go_wp2_with (first
            | (go_at_call 13;refine (ry _).mono ?_;rintro e w1 ⟨bN,rfl,-,b1,-⟩)
            | (go_at_call 9;refine (bg _).mono ?_;rintro e w2 ⟨L,s,σ,F0,rfl,R0,b2,l2,hσ,-⟩;have HR : Hid (Rest 4 4 L 0 97 1 w2 s σ (qH 4 4 12 40 F0) (fun _=>0) (I9 4 4 12 40) (fun _=>.nil) 0 [0] EI (fun _=>none)):=R0 0 97 (by decide);clear R0;have vN:=(ZU.new (w:=w2) (P:=L.p) (c0:=4) (c1:=4) (c2:=12) (c3:=40) (c4:=100) (c5:=600) (c6:=3) (who:=0) (T:=27)))
            | (go_at_call 10;refine (XW _).mono ?_;rintro e w3 ⟨rfl,b3⟩;have v3:=vN.grown b3;obtain ⟨y0,y1,y2,y3,y4,y5,y6,y7,y8⟩:=id v3)
            | (go_at_call 21;refine (hck _).mono ?_;rintro e w4 ⟨rfl,rfl⟩)
            | (go_at_call 15;refine (Xl _ _ _ _ _ _ _ _ _ _).mono ?_;rintro e w5 ⟨rfl,b5⟩)
            | (go_at_call 16;refine (Xk _).mono ?_;rintro e w6 ⟨rfl,b6⟩;have v6:=(v3.grown b5).grown b6;obtain ⟨z0,z1,z2,z3,z4,z5,z6,z7,z8⟩:=id v6))
           go_ret
           exact ⟨rfl,grow (grow (grow (Z7 (grow b1 b2) _) b3) b5) b6⟩
         · have HA : Hid (∀ (L : Loc) (s : Mm) (σ : Nat) (F0 : List Nat) (w2 w6 : World),Rest 4 4 L 0 97 1 w2 s σ (qH 4 4 12 40 F0) (fun _=>0) (I9 4 4 12 40) (fun _=>.nil) 0 [0] EI (fun _=>none) -> Below w2.heap.size w2 w6 -> σ <= 600 -> Calls Tryz.prog 11 #[.agg #[.int .i64 4,.int .i64 4,.int .i64 12,.int .i64 40,.int .i64 100,.int .i64 600,.int .i64 3,.pointer (some ⟨L.p,0,none⟩),.int .i64 0],.int .u64 hd,.int .i64 kd,.int .i64 ky] w6 fun e w'=>∃ Hh V St : Int,e = .returned (.agg #[.int .i64 3,.int .u64 Hh,.int .i64 V,.int .i64 St]) /\ Only L.has w6 w'):=fun L s σ F0 w2 w6 R g hσ=>Bg (n:=4) ⟨R.mm.below g,R.vl,R.lc,R.nn,R.room,R.hJ,R.pn⟩ (by decide) (by decide) hσ (by omega) h3 h4 HW.out he
           replace he : (hd == 65536) = false:=by simpa using he
           go_enter Tryz.func7,Tryz.ntmps7
           go_wp2_with (first
            | (go_at_call 13;refine (ry _).mono ?_;rintro e w1 ⟨bN,rfl,-,b1,-⟩)
            | (go_at_call 9;refine (bg _).mono ?_;rintro e w2 ⟨L,s,σ,F0,rfl,R0,b2,l2,hσ,-⟩;have HR : Hid (Rest 4 4 L 0 97 1 w2 s σ (qH 4 4 12 40 F0) (fun _=>0) (I9 4 4 12 40) (fun _=>.nil) 0 [0] EI (fun _=>none)):=R0 0 97 (by decide);clear R0;have vN:=(ZU.new (w:=w2) (P:=L.p) (c0:=4) (c1:=4) (c2:=12) (c3:=40) (c4:=100) (c5:=600) (c6:=3) (who:=0) (T:=27)))
            | (go_at_call 10;refine (XW _).mono ?_;rintro e w3 ⟨rfl,b3⟩;have v3:=vN.grown b3;obtain ⟨y0,y1,y2,y3,y4,y5,y6,y7,y8⟩:=id v3)
            | (go_at_call 21;refine (hck _).mono ?_;rintro e w4 ⟨rfl,rfl⟩)
            | (go_at_call 15;refine (Xl _ _ _ _ _ _ _ _ _ _).mono ?_;rintro e w5 ⟨rfl,b5⟩)
            | (go_at_call 16;refine (Xk _).mono ?_;rintro e w6 ⟨rfl,b6⟩;have v6:=(v3.grown b5).grown b6;obtain ⟨z0,z1,z2,z3,z4,z5,z6,z7,z8⟩:=id v6)
            | (go_at_call 11;refine (HA.out L s σ F0 w2 _ HR.out (grow (grow (grow (ZY _ _) b3) b5) b6) hσ).mono ?_;rintro e w7 ⟨Hh,V,St,rfl,o7⟩))
           go_ret
           exact ⟨rfl,PQ (grow (grow (grow (Z7 (grow b1 b2) _) b3) b5) b6) o7 (fun x hx=>Nat.le_trans b1.size (l2 x hx))⟩
       · have hm : Xu kd ky = false:=by rw [Xu,decide_eq_false h4,Bool.and_false]
         have hck:=fun w=>Yg kd ky w
         rw [hm] at hck
         have hnb:=fun w=>TL kd ky hd hm w
         clear hm
         go_enter Tryz.func7,Tryz.ntmps7
         go_wp2_with (first
          | (go_at_call 13;refine (hnb _).mono ?_;rintro e w1 ⟨rfl,rfl⟩)
          | (go_at_call 9;refine (bg _).mono ?_;rintro e w2 ⟨L,s,σ,F0,rfl,R0,b2,l2,hσ,-⟩;have HR : Hid (Rest 4 4 L 0 97 1 w2 s σ (qH 4 4 12 40 F0) (fun _=>0) (I9 4 4 12 40) (fun _=>.nil) 0 [0] EI (fun _=>none)):=R0 0 97 (by decide);clear R0;have vN:=(ZU.new (w:=w2) (P:=L.p) (c0:=4) (c1:=4) (c2:=12) (c3:=40) (c4:=100) (c5:=600) (c6:=3) (who:=0) (T:=27)))
          | (go_at_call 10;refine (XW _).mono ?_;rintro e w3 ⟨rfl,b3⟩;have v3:=vN.grown b3;obtain ⟨y0,y1,y2,y3,y4,y5,y6,y7,y8⟩:=id v3)
          | (go_at_call 21;refine (hck _).mono ?_;rintro e w4 ⟨rfl,rfl⟩)
          | (go_at_call 15;refine (Xl _ _ _ _ _ _ _ _ _ _).mono ?_;rintro e w5 ⟨rfl,b5⟩)
          | (go_at_call 16;refine (Xk _).mono ?_;rintro e w6 ⟨rfl,b6⟩;have v6:=(v3.grown b5).grown b6;obtain ⟨z0,z1,z2,z3,z4,z5,z6,z7,z8⟩:=id v6))
         go_ret
         exact ⟨rfl,grow (grow (grow (Z7 b2 _) b3) b5) b6⟩
     · have hm : Xu kd ky = false:=by rw [Xu,decide_eq_false h3,Bool.and_false,Bool.false_and]
       have hck:=fun w=>Yg kd ky w
       rw [hm] at hck
       have hnb:=fun w=>TL kd ky hd hm w
       clear hm
       go_enter Tryz.func7,Tryz.ntmps7
       go_wp2_with (first
        | (go_at_call 13;refine (hnb _).mono ?_;rintro e w1 ⟨rfl,rfl⟩)
        | (go_at_call 9;refine (bg _).mono ?_;rintro e w2 ⟨L,s,σ,F0,rfl,R0,b2,l2,hσ,-⟩;have HR : Hid (Rest 4 4 L 0 97 1 w2 s σ (qH 4 4 12 40 F0) (fun _=>0) (I9 4 4 12 40) (fun _=>.nil) 0 [0] EI (fun _=>none)):=R0 0 97 (by decide);clear R0;have vN:=(ZU.new (w:=w2) (P:=L.p) (c0:=4) (c1:=4) (c2:=12) (c3:=40) (c4:=100) (c5:=600) (c6:=3) (who:=0) (T:=27)))
        | (go_at_call 10;refine (XW _).mono ?_;rintro e w3 ⟨rfl,b3⟩;have v3:=vN.grown b3;obtain ⟨y0,y1,y2,y3,y4,y5,y6,y7,y8⟩:=id v3)
        | (go_at_call 21;refine (hck _).mono ?_;rintro e w4 ⟨rfl,rfl⟩)
        | (go_at_call 15;refine (Xl _ _ _ _ _ _ _ _ _ _).mono ?_;rintro e w5 ⟨rfl,b5⟩)
        | (go_at_call 16;refine (Xk _).mono ?_;rintro e w6 ⟨rfl,b6⟩;have v6:=(v3.grown b5).grown b6;obtain ⟨z0,z1,z2,z3,z4,z5,z6,z7,z8⟩:=id v6))
       go_ret
       exact ⟨rfl,grow (grow (grow (Z7 b2 _) b3) b5) b6⟩
   · have hm : Xu kd ky = false:=by rw [Xu,decide_eq_false h2,Bool.and_false,Bool.false_and,Bool.false_and]
     have hck:=fun w=>Yg kd ky w
     rw [hm] at hck
     have hnb:=fun w=>TL kd ky hd hm w
     clear hm
     go_enter Tryz.func7,Tryz.ntmps7
     go_wp2_with (first
      | (go_at_call 13;refine (hnb _).mono ?_;rintro e w1 ⟨rfl,rfl⟩)
      | (go_at_call 9;refine (bg _).mono ?_;rintro e w2 ⟨L,s,σ,F0,rfl,R0,b2,l2,hσ,-⟩;have HR : Hid (Rest 4 4 L 0 97 1 w2 s σ (qH 4 4 12 40 F0) (fun _=>0) (I9 4 4 12 40) (fun _=>.nil) 0 [0] EI (fun _=>none)):=R0 0 97 (by decide);clear R0;have vN:=(ZU.new (w:=w2) (P:=L.p) (c0:=4) (c1:=4) (c2:=12) (c3:=40) (c4:=100) (c5:=600) (c6:=3) (who:=0) (T:=27)))
      | (go_at_call 10;refine (XW _).mono ?_;rintro e w3 ⟨rfl,b3⟩;have v3:=vN.grown b3;obtain ⟨y0,y1,y2,y3,y4,y5,y6,y7,y8⟩:=id v3)
      | (go_at_call 21;refine (hck _).mono ?_;rintro e w4 ⟨rfl,rfl⟩)
      | (go_at_call 15;refine (Xl _ _ _ _ _ _ _ _ _ _).mono ?_;rintro e w5 ⟨rfl,b5⟩)
      | (go_at_call 16;refine (Xk _).mono ?_;rintro e w6 ⟨rfl,b6⟩;have v6:=(v3.grown b5).grown b6;obtain ⟨z0,z1,z2,z3,z4,z5,z6,z7,z8⟩:=id v6))
     go_ret
     exact ⟨rfl,grow (grow (grow (Z7 b2 _) b3) b5) b6⟩
 · have hm : Xu kd ky = false:=by rw [Xu,decide_eq_false h1,Bool.false_and,Bool.false_and,Bool.false_and]
   have hck:=fun w=>Yg kd ky w
   rw [hm] at hck
   have hnb:=fun w=>TL kd ky hd hm w
   clear hm
   go_enter Tryz.func7,Tryz.ntmps7
   go_wp2_with (first
    | (go_at_call 13;refine (hnb _).mono ?_;rintro e w1 ⟨rfl,rfl⟩)
    | (go_at_call 9;refine (bg _).mono ?_;rintro e w2 ⟨L,s,σ,F0,rfl,R0,b2,l2,hσ,-⟩;have HR : Hid (Rest 4 4 L 0 97 1 w2 s σ (qH 4 4 12 40 F0) (fun _=>0) (I9 4 4 12 40) (fun _=>.nil) 0 [0] EI (fun _=>none)):=R0 0 97 (by decide);clear R0;have vN:=(ZU.new (w:=w2) (P:=L.p) (c0:=4) (c1:=4) (c2:=12) (c3:=40) (c4:=100) (c5:=600) (c6:=3) (who:=0) (T:=27)))
    | (go_at_call 10;refine (XW _).mono ?_;rintro e w3 ⟨rfl,b3⟩;have v3:=vN.grown b3;obtain ⟨y0,y1,y2,y3,y4,y5,y6,y7,y8⟩:=id v3)
    | (go_at_call 21;refine (hck _).mono ?_;rintro e w4 ⟨rfl,rfl⟩)
    | (go_at_call 15;refine (Xl _ _ _ _ _ _ _ _ _ _).mono ?_;rintro e w5 ⟨rfl,b5⟩)
    | (go_at_call 16;refine (Xk _).mono ?_;rintro e w6 ⟨rfl,b6⟩;have v6:=(v3.grown b5).grown b6;obtain ⟨z0,z1,z2,z3,z4,z5,z6,z7,z8⟩:=id v6))
   go_ret
   exact ⟨rfl,grow (grow (grow (Z7 b2 _) b3) b5) b6⟩
end Go.Proofs.YtpbghmeikcphnaaGreat
