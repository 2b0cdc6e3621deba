import Derived.Test.YtmnnhjhhhfabiaaGreatDropFarm
import Derived.Test.YtmnnhjhhhfabiaaGreatCompLand
import Derived.Test.YtmnnhjhhhfabiaaGreatCompHerd
namespace Go.Proofs.YtmnnhjhhhfabiaaGreat
open Go.RowKit
section
set_option maxHeartbeats 1000000
set_option maxRecDepth 20000
def Uw (t n k a : Nat) : Prop:=a = 0 \/ (6 <= a /\ a < 6 + t) \/ ∃ i,i < k /\ a = Zr t n i + 2
def Far (t n k : Nat) (s s' : Mm) : Prop:=∀ a,Uw t n k a -> s'.wd a = s.wd a
theorem Far.refl {t n k : Nat} {s : Mm} : Far t n k s s:=fun _ _=>rfl
theorem Far.step {t n k : Nat} {s s1 s2 : Mm} {who : Int} {b : Nat} (h : Far t n k s s1) (e : ∃ v,s2 = (s1.by who).step b v) (hb : ¬ Uw t n k b) : Far t n k s s2:=fun a ha=>by
 obtain ⟨v,rfl⟩:=e
 rw [Zm.ZC who b a v (fun e=>hb (e ▸ ha))];exact h a ha
theorem Yd {t n k a : Nat} (h0 : a ≠ 0) (hp : ¬ (6 <= a /\ a < 6 + t)) (hc : ∀ i,i < k -> a ≠ Zr t n i + 2) : ¬ Uw t n k a:=fun h=>by
 rcases h with h | h | ⟨i,hi,h⟩
 · exact h0 h
 · exact hp h
 · exact hc i hi h
theorem xX {t n k m κ σ : Nat} {q : Q} {α : Al} (hκ : κ < 4) (hg : α.good t n k m κ σ q) (ho : α.Zy = false) : ¬ Uw t n k (α.at t n κ):=by
 have slt : ∀ {x},x < n -> ¬ Uw t n k (6 + t + x * 2):=fun {x} hx=>Yd (by omega) (by omega) (fun i hi=>by unfold Zr;omega)
 have UE : ∀ {x},x < n -> ¬ Uw t n k (6 + t + x * 2 + 1):=fun {x} hx=>Yd (by omega) (by omega) (fun i hi=>by unfold Zr;omega)
 have top : ¬ Uw t n k 1:=Yd (by omega) (by omega) (fun i hi=>by unfold Zr;omega)
 have dat : ∀ {a},6 + t + n * 2 + k * 3 <= a -> ¬ Uw t n k a:=fun {a} ha=>Yd (by omega) (by omega) (fun i hi=>by unfold Zr;omega)
 cases α with
 | take τ =>
  rcases Tk.at_in (t:=t) hg.1 with e | ⟨x,hx,e⟩
  · simp only [Al.at];rw [e];exact top
  · simp only [Al.at];rw [e];exact UE hx
 | ask x=>exact slt hg.1
 | place x g τ =>
  rcases Pl.at_in (t:=t) (n:=n) hg.2.2.2.1 with e | ⟨j,hj,e⟩
  · simp only [Al.at];rw [e];exact Yd (by omega) (by omega) (fun i hi=>by unfold Zr;omega)
  · simp only [Al.at];rw [e];exact Yd (by omega) (by omega) (fun i hi=>by unfold Zr;omega)
 | count x g a i=>have:=hg.2.2.2.1;exact Yd (by simp only [Al.at];omega) (by simp only [Al.at];omega) (fun j hj=>by simp only [Al.at];unfold Zr;omega)
 | head x g a i=>exact dat hg.2.2.2.2.1
 | shw x g a i=>exact slt hg.1
 | ready x g a i st=>exact dat hg.2.2.2.2.1
 | give x g γ =>
  rcases Gv.at_in (t:=t) hg.1 γ with e | ⟨y,hy,e⟩
  · simp only [Al.at];rw [e];exact top
  · simp only [Al.at];rw [e];exact UE hy
 | over E H st=>cases ho
section
variable {w : World} {L : Loc} {t n k m σ κ : Nat} {s : Mm} {q : Q} {z : Int} {own : Bool}
theorem VW {cg cp cr : Int} (wh : Int) (h : Z9 w L s) (hT : Zm t n k m s σ q) (hG : Good t n k m cg cp cr) (fz : Fit z) (hz : ZM z = κ) (hκ : κ < 4) (hσ : σ + 400 < 1000000) {N : Nat} (hN : N <= 400) {q' : Q} {E H : Int} {st : Nat} (g : UC t n k m κ z own N σ q (.take .idle) q' (.over E H st)) :
 Calls Tryz.prog 11 #[eV t n k m cg cp cr L.p wh,iV z,.bool own] w fun e w'=>e = .returned (.agg #[iV E,.int .u64 H,iV 0,iV st]) /\ ∃ s',Z9 w' L s' /\ Zm t n k m s' (σ + N) q' /\ Only L.has w w' /\ Far t n k s s':=by
 have hB : Hid (¬ L.has w.heap.size):=fun hh=>by have:=h.lt _ hh;omega
 have hB1 : Hid (¬ L.has (w.heap.size + 1)):=fun hh=>by have:=h.lt _ hh;omega
 have hB2 : Hid (¬ L.has (w.heap.size + 1 + 1)):=fun hh=>by have:=h.lt _ hh;omega
 have HT : Hid (Zm t n k m s σ q):=hT
 have HM : Hid (Z9 w L s):=h
 have HG : Hid (Good t n k m cg cp cr):=hG
 have HZ : Hid (ZM z = κ):=hz
 have GG : Hid (UC t n k m κ z own N σ q (.take .idle) q' (.over E H st)):=g
 clear h hT hG g hz
 go_enter Tryz.func11,Tryz.ntmps11
 go_wp2_with (go_at_call 38;refine (OW z own _).mono ?_;rintro e w1 ⟨rfl,rfl⟩)
 have A1 : Hid (∃ s1 cs1 a1,Z9 (((w.alloc (eO t n k m cg cp cr L.p wh)).alloc (.cells #[iV 0,.int .u64 0,iV 0,iV 0] 36)).alloc (VM z own)) L s1 /\ Zm t n k m s1 (σ + 0) q /\ ZG (((w.alloc (eO t n k m cg cp cr L.p wh)).alloc (.cells #[iV 0,.int .u64 0,iV 0,iV 0] 36)).alloc (VM z own)) (w.heap.size + 1 + 1) 0 123 cs1 a1 /\ Em z own κ (.take .idle) a1 /\ (Al.take .idle).good t n k m κ (σ + 0) q /\ ZV (((w.alloc (eO t n k m cg cp cr L.p wh)).alloc (.cells #[iV 0,.int .u64 0,iV 0,iV 0] 36)).alloc (VM z own)) w.heap.size t n k m cg cp cr L.p wh /\ At (((w.alloc (eO t n k m cg cp cr L.p wh)).alloc (.cells #[iV 0,.int .u64 0,iV 0,iV 0] 36)).alloc (VM z own)) (w.heap.size + 1) 0 36 #[iV 0,.int .u64 0,iV 0,iV 0] [iV 0,.int .u64 0,iV 0,iV 0] /\ Only (L.and (w.heap.size + 1 + 1)) w (((w.alloc (eO t n k m cg cp cr L.p wh)).alloc (.cells #[iV 0,.int .u64 0,iV 0,iV 0] 36)).alloc (VM z own)) /\ Far t n k s s1):=by
  obtain ⟨cs,q0⟩:=Ir z own ((w.alloc (eO t n k m cg cp cr L.p wh)).alloc (.cells #[iV 0,.int .u64 0,iV 0,iV 0] 36))
  rw [Go.Deep.nblk_alloc,Go.Deep.nblk_alloc] at q0
  have q1:=(At.new (w.alloc (eO t n k m cg cp cr L.p wh)) 36 [iV 0,.int .u64 0,iV 0,iV 0]).grown (Z5 (Below.refl _ _) (VM z own))
  rw [Go.Deep.nblk_alloc] at q1
  exact ⟨s,cs,_,((HM.out.alloc _).alloc _).alloc _,HT.out,q0,xg z own κ,⟨trivial,rfl⟩,(ZV.WX _).grown (Z5 (Below.refl _ _) _),q1,(((Only.refl _ _).alloc _).alloc _).alloc _,Far.refl⟩
 clear HM HT
 go_loopw [8] (fun i wr=>∃ (j N1 : Nat) (s1 : Mm) (cs1 : Array Value) (a1 : AV) (q1 : Q) (α1 : Al),i = iV j /\ j + N1 = N /\ UC t n k m κ z own N1 (σ + j) q1 α1 q' (.over E H st) /\ Z9 wr L s1 /\ Zm t n k m s1 (σ + j) q1 /\ ZG wr (w.heap.size + 1 + 1) 0 123 cs1 a1 /\ Em z own κ α1 a1 /\ α1.good t n k m κ (σ + j) q1 /\ ZV wr w.heap.size t n k m cg cp cr L.p wh /\ At wr (w.heap.size + 1) 0 36 #[iV 0,.int .u64 0,iV 0,iV 0] [iV 0,.int .u64 0,iV 0,iV 0] /\ Only (L.and (w.heap.size + 1 + 1)) w wr /\ Far t n k s s1) (fun i _=>400 - (intOf i).toNat)
 case atStart =>
  obtain ⟨s1,cs1,a1,hm⟩:=A1.out
  exact ⟨0,N,s1,cs1,a1,q,_,rfl,by omega,GG.out,hm⟩
 case round =>
  clear A1 GG
  obtain ⟨j,N1,s1,cs1,a1,q1,α1,rfl,hj,gg,mm,tw,ia,tK,gd,v,j1,on,fr⟩:=hrel
  have hN1:=gg.pos
  have hj3 : (j : Int) < 400:=by omega
  obtain ⟨y0,y1,y2,y3,y4,y5,y6,y7,y8⟩:=id v
  cases gg with
  | one ho ht h1 =>
   have HT1 : Hid (XN t n k m κ z own (σ + j) q1 α1 = (q',.over E H st)):=ht
   have HO : Hid (α1.Zy = false):=ho
   clear ht ho
   go_wp2_with (first
    | (go_at_call 39;refine (Q7 mm hB2.out tw HG.out (by omega) fz HZ.out hκ α1 ia tK gd HO.out wh _ _ HT1.out true h1).mono ?_;rintro e w2 ⟨rfl,s2,cs2,a2,P⟩;obtain ⟨c1,c2,c3,c4⟩:=P.is.cm;have hnx:=P.is.nx)
    | (go_at_call 40;refine (Lc P.al hnx).mono ?_;rintro e w3 ⟨rfl,b3⟩;rw [c1,c2,c3,c4];have j3:=(j1.only P.only (fun hh=>hh.elim hB1.out (by omega))).grown b3;have z0:=j3.at0 0 rfl;have z1:=j3.at0 1 rfl;have z2:=j3.at0 2 rfl;have z3:=j3.at0 3 rfl;have qf:=j3.fz))
   refine bodyPost_ret (v:=.agg #[iV E,.int .u64 H,iV 0,iV st]) (by simp [results,Tryz.results11,go_sem,z0,z1,z2,z3]) rfl ?_
   refine ⟨rfl,s2,((((P.mm.below b3).Z4 hB1.out _ _).Z4 hB1.out _ _).Z4 hB1.out _ _).Z4 hB1.out _ _,?_,?_,fr.step P.st (xX hκ gd HO.out)⟩
   · have:=P.tw
     rwa [show σ + j + 1 = σ + N by omega] at this
   · exact ((((((on.trans P.only).trans (Only.ZZ b3)).setCell (fun hlt=>by simp only at hlt;omega) _).setCell (fun hlt=>by simp only at hlt;omega) _).setCell (fun hlt=>by simp only at hlt;omega) _).setCell (fun hlt=>by simp only at hlt;omega) _).mono (fun x hx hh=>hh.elim id (fun e=>absurd e (by omega)))
  | more ho ht h1 g1 =>
   have HT1 : Hid (XN t n k m κ z own (σ + j) q1 α1 = (_,_)):=ht
   have HO : Hid (α1.Zy = false):=ho
   clear ht ho
   go_wp2_with (go_at_call 39;refine (Q7 mm hB2.out tw HG.out (by omega) fz HZ.out hκ α1 ia tK gd HO.out wh _ _ HT1.out false h1).mono ?_;rintro e w2 ⟨rfl,s2,cs2,a2,P⟩)
   go_roundw
   case rel =>
    exact ⟨j + 1,_,s2,cs2,a2,_,_,by go_num,by omega,g1,P.mm,P.tw,P.al,P.is,P.good,v.only P.only (fun hh=>hh.elim hB.out (by omega)),j1.only P.only (fun hh=>hh.elim hB1.out (by omega)),on.trans P.only,fr.step P.st (xX hκ gd HO.out)⟩
   case measure=>simp [intOf];omega
end
theorem xW {t n k m x G : Nat} {q : Q} {α : Dp} (hx : x < n) (hg : α.good t n k m x G q) (ho : α.Zy = false) : ¬ Uw t n k (α.at t n x):=by
 have slt : ¬ Uw t n k (6 + t + x * 2):=Yd (by omega) (by omega) (fun i hi=>by unfold Zr;omega)
 have UE : ∀ {x},x < n -> ¬ Uw t n k (6 + t + x * 2 + 1):=fun {x} hx=>Yd (by omega) (by omega) (fun i hi=>by unfold Zr;omega)
 have top : ¬ Uw t n k 1:=Yd (by omega) (by omega) (fun i hi=>by unfold Zr;omega)
 have dat : ∀ {a},6 + t + n * 2 + k * 3 <= a -> ¬ Uw t n k a:=fun {a} ha=>Yd (by omega) (by omega) (fun i hi=>by unfold Zr;omega)
 have ob : ∀ {v : Int} {Z i j : Nat},Vr t n k m v Z i -> ¬ Uw t n k (ZA v + j):=fun {v Z i j} O=>by
  obtain ⟨u,hu,e⟩:=O.ad
  exact dat (by rw [e];unfold base;omega)
 have hp : ∀ {η : Hp},η.good t n k m -> η.Zy = false -> ¬ Uw t n k (η.at t x):=fun {η} h1 h2=>by
  cases η with
  | over=>cases h2
  | go v Z j u =>
   obtain ⟨⟨i,O⟩,-⟩:=h1
   simp only [Hp.at]
   split
   · exact slt
   · rw [Nat.add_assoc];exact ob O
 cases α with
 | see=>exact slt
 | ask v =>
  obtain ⟨i,O⟩:=hg
  exact ob (j:=0) O
 | mark v Z=>exact slt
 | QV η=>exact hp hg.1 hg.2
 | fin Z i η=>exact hp hg.1 hg.2
 | count Z i=>have:=hg.2.2.1;exact Yd (by simp only [Dp.at];omega) (by simp only [Dp.at];omega) (fun j hj=>by simp only [Dp.at];unfold Zr;omega)
 | give γ =>
  rcases Gv.at_in (t:=t) hx γ with e | ⟨y,hy,e⟩
  · simp only [Dp.at];rw [e];exact top
  · simp only [Dp.at];rw [e];exact UE hy
 | over E=>cases ho
section
variable {w : World} {L : Loc} {t n k m σ : Nat} {s : Mm} {q : Q} {nu : Int} {own : Bool}
theorem DJ {cg cp cr : Int} (wh : Int) (h : Z9 w L s) (hT : Zm t n k m s σ q) (hG : Good t n k m cg cp cr) (hdw : ∀ a,Wd (q.dw a)) {x G : Nat} (hh : XM nu x G) (hx : x < n) (hσ : σ + 200 < 1000000) {N : Nat} (hN : N <= 200) {q' : Q} {E : Int} (g : Xg t n k m cg own x G N q .see q' (.over E)) :
 Calls Tryz.prog 16 #[eV t n k m cg cp cr L.p wh,.int .u64 nu,.bool own] w fun e w'=>∃ (st : Int) (s' : Mm),e = .returned (.agg #[iV E,.int .u64 0,iV 0,iV st]) /\ Z9 w' L s' /\ Zm t n k m s' (σ + N) q' /\ Only L.has w w' /\ Far t n k s s':=by
 have hB : Hid (¬ L.has w.heap.size):=fun hh=>by have:=h.lt _ hh;omega
 have hB1 : Hid (¬ L.has (w.heap.size + 1)):=fun hh=>by have:=h.lt _ hh;omega
 have hB2 : Hid (¬ L.has (w.heap.size + 1 + 1)):=fun hh=>by have:=h.lt _ hh;omega
 have HT : Hid (Zm t n k m s σ q):=hT
 have HM : Hid (Z9 w L s):=h
 have HG : Hid (Good t n k m cg cp cr):=hG
 have HH : Hid (XM nu x G):=hh
 have HX : Hid (x < n):=hx
 have HW : Hid (∀ a,Wd (q.dw a)):=hdw
 have GG : Hid (Xg t n k m cg own x G N q .see q' (.over E)):=g
 clear h hT hG g hh hx hdw
 go_enter Tryz.func16,Tryz.ntmps16
 go_wp2_with (go_at_call 49;refine (Nw nu own _).mono ?_;rintro e w1 ⟨rfl,rfl⟩)
 have A1 : Hid (∃ s1 cs1 a1,Z9 (((w.alloc (eO t n k m cg cp cr L.p wh)).alloc (.cells #[iV 0,.int .u64 0,iV 0,iV 0] 36)).alloc (TT nu own)) L s1 /\ Zm t n k m s1 (σ + 0) q /\ ZH (((w.alloc (eO t n k m cg cp cr L.p wh)).alloc (.cells #[iV 0,.int .u64 0,iV 0,iV 0] 36)).alloc (TT nu own)) (w.heap.size + 1 + 1) 0 134 cs1 a1 /\ DF t n k m nu own x .see a1 /\ ZV (((w.alloc (eO t n k m cg cp cr L.p wh)).alloc (.cells #[iV 0,.int .u64 0,iV 0,iV 0] 36)).alloc (TT nu own)) w.heap.size t n k m cg cp cr L.p wh /\ At (((w.alloc (eO t n k m cg cp cr L.p wh)).alloc (.cells #[iV 0,.int .u64 0,iV 0,iV 0] 36)).alloc (TT nu own)) (w.heap.size + 1) 0 36 #[iV 0,.int .u64 0,iV 0,iV 0] [iV 0,.int .u64 0,iV 0,iV 0] /\ Only (L.and (w.heap.size + 1 + 1)) w (((w.alloc (eO t n k m cg cp cr L.p wh)).alloc (.cells #[iV 0,.int .u64 0,iV 0,iV 0] 36)).alloc (TT nu own)) /\ Far t n k s s1):=by
  obtain ⟨cs,q0⟩:=DD nu own ((w.alloc (eO t n k m cg cp cr L.p wh)).alloc (.cells #[iV 0,.int .u64 0,iV 0,iV 0] 36))
  rw [Go.Deep.nblk_alloc,Go.Deep.nblk_alloc] at q0
  have q1:=(At.new (w.alloc (eO t n k m cg cp cr L.p wh)) 36 [iV 0,.int .u64 0,iV 0,iV 0]).grown (Z5 (Below.refl _ _) (TT nu own))
  rw [Go.Deep.nblk_alloc] at q1
  exact ⟨s,cs,_,((HM.out.alloc _).alloc _).alloc _,HT.out,q0,wI t n k m nu own x,(ZV.WX _).grown (Z5 (Below.refl _ _) _),q1,(((Only.refl _ _).alloc _).alloc _).alloc _,Far.refl⟩
 clear HM HT
 go_loopw [8] (fun i wr=>∃ (j N1 : Nat) (s1 : Mm) (cs1 : Array Value) (a1 : DV) (q1 : Q) (α1 : Dp),i = iV j /\ j + N1 = N /\ Xg t n k m cg own x G N1 q1 α1 q' (.over E) /\ (∀ a,Wd (q1.dw a)) /\ Z9 wr L s1 /\ Zm t n k m s1 (σ + j) q1 /\ ZH wr (w.heap.size + 1 + 1) 0 134 cs1 a1 /\ DF t n k m nu own x α1 a1 /\ ZV wr w.heap.size t n k m cg cp cr L.p wh /\ At wr (w.heap.size + 1) 0 36 #[iV 0,.int .u64 0,iV 0,iV 0] [iV 0,.int .u64 0,iV 0,iV 0] /\ Only (L.and (w.heap.size + 1 + 1)) w wr /\ Far t n k s s1) (fun i _=>200 - (intOf i).toNat)
 case atStart =>
  obtain ⟨s1,cs1,a1,hm⟩:=A1.out
  exact ⟨0,N,s1,cs1,a1,q,_,rfl,by omega,GG.out,HW.out,hm⟩
 case round =>
  clear A1 GG HW
  obtain ⟨j,N1,s1,cs1,a1,q1,α1,rfl,hj,gg,wd,mm,tw,ia,tK,v,j1,on,fr⟩:=hrel
  have hN1:=gg.pos
  have hj3 : (j : Int) < 200:=by omega
  obtain ⟨y0,y1,y2,y3,y4,y5,y6,y7,y8⟩:=id v
  cases gg with
  | one ho hg ht h1 =>
   have HT1 : Hid (YP t n k m cg own x G q1 α1 = (q',.over E)):=ht
   have HO : Hid (α1.Zy = false):=ho
   have tJ : Hid (α1.good t n k m x G q1):=hg
   clear ht ho hg
   go_wp2_with (first
    | (go_at_call 50;refine (drop_step mm hB2.out tw HG.out (by omega) wd HH.out HX.out α1 ia tK tJ.out HO.out wh _ _ HT1.out true h1).mono ?_;rintro e w2 ⟨rfl,s2,cs2,a2,P⟩;have c1 : a2.E = E:=P.is.E;have c2:=P.is.H;have c3:=P.is.V;have hnx:=P.is.nx)
    | (go_at_call 51;refine (Kz P.dp hnx).mono ?_;rintro e w3 ⟨rfl,b3⟩;rw [c1,c2,c3];have j3:=(j1.only P.only (fun hh=>hh.elim hB1.out (by omega))).grown b3;have z0:=j3.at0 0 rfl;have z1:=j3.at0 1 rfl;have z2:=j3.at0 2 rfl;have z3:=j3.at0 3 rfl;have qf:=j3.fz))
   refine bodyPost_ret (v:=.agg #[iV E,.int .u64 0,iV 0,iV a2.St]) (by simp [results,Tryz.results16,go_sem,z0,z1,z2,z3]) rfl ?_
   refine ⟨_,s2,rfl,((((P.mm.below b3).Z4 hB1.out _ _).Z4 hB1.out _ _).Z4 hB1.out _ _).Z4 hB1.out _ _,?_,?_,fr.step P.st (xW HX.out tJ.out HO.out)⟩
   · have:=P.tw
     rwa [show σ + j + 1 = σ + N by omega] at this
   · exact ((((((on.trans P.only).trans (Only.ZZ b3)).setCell (fun hlt=>by simp only at hlt;omega) _).setCell (fun hlt=>by simp only at hlt;omega) _).setCell (fun hlt=>by simp only at hlt;omega) _).setCell (fun hlt=>by simp only at hlt;omega) _).mono (fun x hx hh=>hh.elim id (fun e=>absurd e (by omega)))
  | more ho hg ht h1 g1 =>
   have mZ:=He wd ht
   have HT1 : Hid (YP t n k m cg own x G q1 α1 = (_,_)):=ht
   have HO : Hid (α1.Zy = false):=ho
   have tJ : Hid (α1.good t n k m x G q1):=hg
   clear ht ho hg
   go_wp2_with (go_at_call 50;refine (drop_step mm hB2.out tw HG.out (by omega) wd HH.out HX.out α1 ia tK tJ.out HO.out wh _ _ HT1.out false h1).mono ?_;rintro e w2 ⟨rfl,s2,cs2,a2,P⟩)
   go_roundw
   case rel =>
    exact ⟨j + 1,_,s2,cs2,a2,_,_,by go_num,by omega,g1,mZ,P.mm,P.tw,P.dp,P.is,v.only P.only (fun hh=>hh.elim hB.out (by omega)),j1.only P.only (fun hh=>hh.elim hB1.out (by omega)),on.trans P.only,fr.step P.st (xW HX.out tJ.out HO.out)⟩
   case measure=>simp [intOf];omega
end
end
section
theorem Good.Dx {t n k m : Nat} {cg cp cr : Int} (h : Good t n k m cg cp cr) : Good t n k m cg 600 3:=⟨h.t0,h.t1,h.s0,h.s1,h.k0,h.k1,h.n0,h.n1,h.g0,h.g1,by decide,by decide,by decide,by decide⟩
theorem YQ.far {t n k m : Nat} {s s' : Mm} {σ σ' : Nat} {z : Zt} {q' : Q} (h : YQ t n k m s σ z) (tw : Zm t n k m s' σ' q') (f : Far t n k s s') (hd : ∀ a,Wd (q'.dw a)) : YQ t n k m s' σ' { z with q:=q' } :=
 ⟨tw,by rw [f 0 (Or.inl rfl)];exact h.ep,fun j hj=>by rw [f (6 + j) (Or.inr (Or.inl ⟨by omega,by omega⟩))];exact h.pn j hj,fun i hi=>by rw [f _ (Or.inr (Or.inr ⟨i,hi,rfl⟩))];exact h.si i hi,hd,h.uZ⟩
structure YF (t n k m : Nat) (s : Mm) (σ : Nat) (z : Zt) (nx : Nat) (gen : Nat -> Nat) (ls : List Ox) : Prop where
 ld : YQ t n k m s σ z
 tm : WY t n k m z.q nx gen ls
 hd : TW t n k m z.q gen ls
inductive Mk (t n k m κ Z : Nat) (own : Bool) (q : Q) (nx : Nat) (gen : Nat -> Nat) (ls : List Ox) : Q -> Nat -> List Ox -> Int -> Int -> Prop where
 | ok (x : Nat) (F : List Nat) (y' : Y) (nx' A i : Nat) (hF : q.F = x :: F) (hx : x < n) (g : LK k m κ (base t n k m) q.y nx y' nx' (.Yn A i)) : Mk t n k m κ Z own q nx gen ls (q.made x F y' A i κ Z own) nx' (q.ox gen x A i Z κ own :: ls) 0 (YL x (gen x))
 | empty (hF : q.F = []) : Mk t n k m κ Z own q nx gen ls q nx ls 7 0
 | full (x : Nat) (F : List Nat) (hF : q.F = x :: F) (g : LK k m κ (base t n k m) q.y nx q.y nx .none) : Mk t n k m κ Z own q nx gen ls (q.back x F q.y) nx ls 6 0
section
variable {w : World} {L : Loc} {t n k m σ nx κ Z : Nat} {cg cp cr : Int} {s : Mm} {z : Zt} {gen : Nat -> Nat} {own : Bool}
theorem YF.make {ls : List Ox} (h : Z9 w L s) (R : YF t n k m s σ z nx gen ls) (hG : Good t n k m cg cp cr) (z1 : 1 <= Z) (z2 : Z <= 16) (kz : ZM Z = κ) (hκ : κ < 4) (hσ : σ + 400 < 1000000) (wh : Int) :
 Calls Tryz.prog 11 #[eV t n k m cg cp cr L.p wh,iV Z,.bool own] w fun e w'=>∃ (E H : Int) (st : Nat) (s' : Mm) (σ' : Nat) (q' : Q) (nx' : Nat) (ls' : List Ox),e = .returned (.agg #[iV E,.int .u64 H,iV 0,iV st]) /\ Mk t n k m κ Z own z.q nx gen ls q' nx' ls' E H /\ Z9 w' L s' /\ YF t n k m s' σ' { z with q:=q' } nx' gen ls' /\ σ' <= σ + 100 /\ Only L.has w w':=by
 have hn:=R.ld.tw.pile.big
 have hk:=hG.k1
 cases hF : z.q.F with
 | nil =>
  refine (VW (own:=own) wh h R.ld.tw hG (WU z2) kz hκ hσ (N:=1) (by omega) (PR hF)).mono ?_
  rintro e w' ⟨rfl,s',m',t',o',f'⟩
  exact ⟨_,_,_,s',_,_,_,_,rfl,.empty hF,m',⟨R.ld.far t' f' R.ld.Jd,R.tm,R.hd⟩,by omega,o'⟩
 | cons x F =>
  obtain ⟨N,y1,qF,τ1,hN,go,g1⟩:=QT (bs:=base t n k m) R.tm.al hκ hG.n0 hG.k0 hG.k1
  have hx : x < n:=R.ld.tw.pile.lt x (by rw [hF];simp)
  have hg:=R.tm.OM (by rw [hF];simp) hx
  have done : ∀ A i,τ1 = .Yn A i -> Calls Tryz.prog 11 #[eV t n k m cg cp cr L.p wh,iV Z,.bool own] w fun e w'=>∃ (E H : Int) (st : Nat) (s' : Mm) (σ' : Nat) (q' : Q) (nx' : Nat) (ls' : List Ox),e = .returned (.agg #[iV E,.int .u64 H,iV 0,iV st]) /\ Mk t n k m κ Z own z.q nx gen ls q' nx' ls' E H /\ Z9 w' L s' /\ YF t n k m s' σ' { z with q:=q' } nx' gen ls' /\ σ' <= σ + 100 /\ Only L.has w w':=by
   rintro A i rfl
   have r:=PO (z:=(Z : Int)) (own:=own) (σ:=σ) hF go
   rw [hg] at r
   refine (VW wh h R.ld.tw hG (WU z2) kz hκ hσ (N:=N + 4 + 4) (by omega) r).mono ?_
   rintro e w' ⟨rfl,s',m',t',o',f'⟩
   have T':=R.tm.made (own:=own) hκ hG.n0 z1 z2 kz hF R.ld.tw.pile.nd hx g1
   exact ⟨_,_,_,s',_,_,_,_,rfl,.ok x F y1 qF A i hF hx g1,m',⟨R.ld.far t' f' T'.wb,T',R.hd.made R.tm hG.Dx hn hκ z1 z2 kz hF R.ld.tw.pile.nd hx g1⟩,by omega,o'⟩
  cases g1 with
  | fit i h1 h2=>exact done _ _ rfl
  | new h1 h2=>exact done _ _ rfl
  | none h1 h2 =>
   refine (VW (own:=own) wh h R.ld.tw hG (WU z2) kz hκ hσ (N:=N + 3 + 4) (by omega) (PN hF go)).mono ?_
   rintro e w' ⟨rfl,s',m',t',o',f'⟩
   exact ⟨_,_,_,s',_,_,_,_,rfl,.full x F hF (.none h1 h2),m',⟨R.ld.far t' f' R.ld.Jd,R.tm.back hF,R.hd.back x F⟩,by omega,o'⟩
theorem YF.drop {l1 l2 : List Ox} {o : Ox} (h : Z9 w L s) (R : YF t n k m s σ z nx gen (l1 ++ o :: l2)) (hG : Good t n k m cg cp cr) (hl : (o.g : Int) < cg) (hσ : σ + 200 < 1000000) (wh : Int) :
 Calls Tryz.prog 16 #[eV t n k m cg cp cr L.p wh,.int .u64 (YL o.x o.g),.bool o.own] w fun e w'=>∃ (st : Int) (s' : Mm) (σ' : Nat),e = .returned (.agg #[iV 0,.int .u64 0,iV 0,iV st]) /\ Z9 w' L s' /\ YF t n k m s' σ' { z with q:=z.q.gone cg o.x (z.q.sw o.x) o.Z o.i } nx (upd gen o.x (o.g + 1)) (l1 ++ l2) /\ σ' <= σ + 40 /\ Only L.has w w':=by
 have hn:=R.ld.tw.pile.big
 have ho : o ∈ l1 ++ o :: l2:=by simp
 have I:=R.tm.is hG.Dx hn ho
 have K:=R.tm.ok o ho
 have x1:=K.x1
 have z2:=K.z2
 refine (DJ wh h R.ld.tw hG R.tm.wb (wH (by omega) K.g1 K.g2) K.x1 hσ (N:=2 * o.Z + 8) (by omega) (G5 I.obj R.tm.wb I.sz I.ow I.gn (by rw [I.st];decide) (by rw [I.vr];decide) I.cl (by rw [I.rm];exact R.tm.room_le) (R.tm.li o ho).nf R.ld.tw.pile.wG hl)).mono ?_
 rintro e w' ⟨st,s',rfl,m',t',o',f'⟩
 have T':=R.tm.gone hG.Dx hn hl
 exact ⟨st,s',_,rfl,m',⟨R.ld.far t' f' T'.wb,T',R.hd.gone R.tm hG.Dx hn hl⟩,by omega,o'⟩
theorem Pz (i : Nat) : ∀ l : List Ox,Yk i l <= 17 * l.length
 | []=>Nat.le_refl _
 | o :: l=>by
  have:=Pz i l
  have hr:=Zv o.κ
  show (if o.i = i then room o.κ else 0) + Yk i l <= 17 * (l.length + 1)
  split <;> omega
theorem YF.calm {ls : List Ox} (R : YF t n k m s σ z nx gen ls) (hlen : ls.length <= 1000) (H8 : ∀ i,i < k -> z.q.db i = 0) : z.calm k m σ:=by
 refine ⟨R.ld.tw.YN.ok,fun c hc=>?_,R.tm.us,fun i hi=>⟨?_,H8 i hi⟩⟩
 · rcases Nat.eq_zero_or_pos (z.q.y.op c) with e | e
   · omega
   · have:=(R.tm.al.opn c hc (z.q.y.op c - 1) (by omega)).1
     have:=R.tm.al.le
     omega
 · rw [R.tm.lv i hi]
   have:=Pz i ls
   omega
end
end
end Go.Proofs.YtmnnhjhhhfabiaaGreat
