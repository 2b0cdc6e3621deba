import Derived.Test.YtmnnhjhhhfabiaaGreatCompPin
import Derived.Test.YtmnnhjhhhfabiaaGreatPinStepS
import Derived.Test.YtmnnhjhhhfabiaaGreatCompInvZ
import Derived.Test.YtmnnhjhhhfabiaaGreatLay
import Derived.Test.YtmnnhjhhhfabiaaGreatDropGo
namespace Go.Proofs.YtmnnhjhhhfabiaaGreat
open Go.RowKit
section
section
variable {t n k m : Nat} {s : Mm} {σ : Nat} {z : Zt}
end
section
variable {p : Int} {w0 w w' : World} {L : Loc} {E X t n k m who σ : Nat} {z : Zt} {rs : List PX} {j : Nat}
theorem XZ.only {cs : Array Value} {f : Nat -> Value} {b o : Nat} {T : TypeId} {K S : Nat -> Prop} {cp : Cp} (h : XZ w b o T L K cp cs f) (g : Only S w w') (hb : ¬ S b) (hS : ∀ y,S y -> K y \/ L.has y) : XZ w' b o T L K cp cs f:=by
 have up : ∀ x,(¬ K x /\ x ≠ b /\ ¬ L.has x) -> ¬ S x:=fun x hh hs=>(hS x hs).elim hh.1 hh.2.2
 refine ⟨h.cm.only g hb,?_,h.ct⟩
 have I:=h.is
 cases hcm : cp.cm with
 | see l=>rw [hcm] at I;exact ⟨I.1,I.2.1,I.2.2.1.only g (fun k hk=>up k (I.2.2.2 k hk)),I.2.2.2⟩
 | cnt l c=>rw [hcm] at I;obtain ⟨a,b,B,cap,c,d,e⟩:=I;exact ⟨a,b,B,cap,c,d.only g (up B e),e⟩
 | opn l κ=>rw [hcm] at I;obtain ⟨a,b,B,cap,c,d,e⟩:=I;exact ⟨a,b,B,cap,c,d.only g (up B e),e⟩
 | shut i c=>rw [hcm] at I;exact I
 | head i c u=>rw [hcm] at I;exact I
 | OO i c u W μ=>rw [hcm] at I;obtain ⟨a1,a2,a3,a4,a5,a,a6,a7⟩:=I;exact ⟨a1,a2,a3,a4,a5,a,a6.only g hb,a7⟩
 | leave i c=>rw [hcm] at I;exact I
 | note i c E=>rw [hcm] at I;exact I
 | quiet i c=>rw [hcm] at I;exact I
 | Yf d=>rw [hcm] at I;obtain ⟨a1,a2,a,a3,a4⟩:=I;exact ⟨a1,a2,a,a3.only g hb,a4⟩
 | Y5 i d=>rw [hcm] at I;obtain ⟨a1,a2,a3,a,a4,a5⟩:=I;exact ⟨a1,a2,a3,a,a4.only g hb,a5⟩
end
end
section
def QW (n E y : Nat) : Prop:=y < n \/ y = E
structure Lp (w0 w : World) (L : Loc) (E X i : Nat) (s : Mm) (σ : Nat) (z : Zt) (cp : Cp) : Prop where
 S : Sc 600 w0 w L E 1 30 8 34 0 s []
 l : YQ 1 30 8 34 s σ z
 C : ∃ cs f,XZ w X 0 110 L (QW w0.heap.size E) cp cs f
 x : ¬ L.has X /\ w0.heap.size <= X /\ X ≠ E /\ X < w.heap.size
 I : CI 1 30 8 34 σ 3 z cp.cm
 c1 : cp.wk.le i
 c2 : cp.Uz <= cp.wk.rd
 c3 : 0 < i -> cp.cm = .see [] -> 0 < cp.wk.rd
 b : σ <= 4000 + i
section
variable {w0 w w' : World} {L : Loc} {E X i : Nat} {s : Mm} {σ : Nat} {z : Zt} {cp : Cp}
theorem Lp.kp (h : Lp w0 w L E X i s σ z cp) : Kp (QW w0.heap.size E) L X w :=
 ⟨fun e=>by have:=h.x;rcases e with e | e <;> omega,fun y e hh=>by rcases e with e | e;(have:=h.S.a.l0 y hh;omega);exact h.S.a.e (e ▸ hh),fun y e=>by have h1:=h.S.xY;have h2:=h.S.b.size;rcases e with e | e <;> omega⟩
theorem Lp.grown (h : Lp w0 w L E X i s σ z cp) (g : Below w.heap.size w w') : Lp w0 w' L E X i s σ z cp :=
 ⟨h.S.grown g,h.l,h.C.imp fun _ k=>k.imp fun _ k=>k.grown g,⟨h.x.1,h.x.2.1,h.x.2.2.1,by have:=h.x.2.2.2;have:=g.size;omega⟩,h.I,h.c1,h.c2,h.c3,h.b⟩
theorem Lp.own (h : Lp w0 w L E X i s σ z cp) {D : Nat} (hD : w.heap.size <= D) {w1 : World} (g : Below w.heap.size w w1) (o : Only (fun x=>x = D) w1 w') : Lp w0 w' L E X i s σ z cp:=by
 have hx:=h.x
 obtain ⟨n1,n2,n3,n4⟩:=h.S.new hD
 refine ⟨(h.S.grown g).own o n1 n2 n3 n4,h.l,?_,⟨hx.1,hx.2.1,hx.2.2.1,by have:=g.size;have:=o.size;omega⟩,h.I,h.c1,h.c2,h.c3,h.b⟩
 obtain ⟨cs,f,C⟩:=h.C
 exact ⟨cs,f,(((C.more hD).grown g).only o (fun e=>by omega) (fun y e=>Or.inl (Or.inr e))).less (fun y e=>Or.inl e)⟩
theorem Lp.now (h : Lp w0 w L E X i s σ z cp) : Calls Tryz.prog 28 #[.agg #[.int .i64 1,.int .i64 30,.int .i64 8,.int .i64 34,.int .i64 100,.int .i64 600,.int .i64 3,.pointer (some ⟨L.p,0,none⟩),.int .i64 0]] w fun e w'=>e = .returned (.int .i64 (σ : Int)) /\ Below w.heap.size w w':=by
 have k:=Yq h.S.mm 1 30 8 34 100 600 3 0
 rw [h.l.tw.YN.st] at k
 exact k
theorem Lp.now1 (h : Lp w0 w L E X i s (σ + 1) z cp) : Calls Tryz.prog 28 #[.agg #[.int .i64 1,.int .i64 30,.int .i64 8,.int .i64 34,.int .i64 100,.int .i64 600,.int .i64 3,.pointer (some ⟨L.p,0,none⟩),.int .i64 0]] w fun e w'=>e = .returned (.int .i64 ((σ : Int) + 1)) /\ Below w.heap.size w w':=h.now
theorem Lp.step (h : Lp w0 w L E X i s σ z cp) (hi : i <= 2000) : ∃ (A : Nat) (z' : Zt) (cp' : Cp),(A < 91 \/ ∃ j u,j < 8 /\ u < 34 /\ A = 91 + j * 34 + u /\ (z'.q.y.ck j).st ≠ 0 /\ u < (z'.q.y.ck j).us) /\
 ∀ W,Lp w0 W L E X i s σ z cp -> Calls Tryz.prog 29 #[.pointer (some ⟨X,0,none⟩),.agg #[.int .i64 1,.int .i64 30,.int .i64 8,.int .i64 34,.int .i64 100,.int .i64 600,.int .i64 3,.pointer (some ⟨L.p,0,none⟩),.int .i64 0]] W fun e w'=>e = .returned (.tuple #[]) /\ ∃ s',Lp w0 w' L E X (i + 1) s' (σ + 1) z' cp' /\ s'.la = (A : Int):=by
 obtain ⟨z',cp',ht⟩ : ∃ z' cp',Zf 1 30 8 34 600 3 z cp = (z',cp'):=⟨_,_,rfl⟩
 have hb:=h.b
 obtain ⟨g1,g2,g3,g4⟩:=zy (by decide) (by decide) (by decide) (by omega) h.l h.I ht
 obtain ⟨n1,n2,n3⟩:=DT h.c1 h.c2 ht
 obtain ⟨k1,k2,k3,k4,k5⟩:=h.c1
 have hid:=h.c2
 refine ⟨cp.cm.at 1 30 8 34,z',cp',?_,fun W H=>?_⟩
 · by_cases e : cp.cm.at 1 30 8 34 < 91
   · exact Or.inl e
   · obtain ⟨j,u,a1,a2,a3,a4,a5⟩:=g3 (by omega)
     exact Or.inr ⟨j,u,a1,a2,by rw [a3];unfold base;omega,a4,a5⟩
 · obtain ⟨cs,f,C⟩:=H.C
   refine (Jb H.S.mm H.x.1 H.kp H.l Xt (by omega) 0 C g1 ⟨⟨by omega,by omega,by omega,by omega,by omega⟩,by omega,g4⟩ ht).mono ?_
   rintro e w' ⟨rfl,s',m',l',c',o',v,rfl⟩
   exact ⟨rfl,_,⟨H.S.but o' m' (fun y hy=>by rcases hy with e | e | ⟨r,hr,-⟩;exact Or.inl e;exact Or.inr e;cases hr),l',c',⟨H.x.1,H.x.2.1,H.x.2.2.1,by have:=H.x.2.2.2;have:=o'.size;omega⟩,g2,n1,n2,fun _=>n3,by omega⟩,rfl⟩
theorem DK {b o : Nat} {T : TypeId} {cs : Array Value} {f : Nat -> Value} (hi : ZN w b o T cs f) {x : Int} (h0 : f 0 = .int .i64 x) (hx : (x != 0) = true) :
 Calls Tryz.prog 32 #[.pointer (some ⟨b,o,none⟩)] w fun e w'=>e = .returned (.bool true) /\ w' = w:=by
 have k0:=hi.c_0 h0
 go_enter Tryz.func32,Tryz.ntmps32
 go_wp2
 go_ret
 exact ⟨rfl,rfl⟩
theorem Lp.busy (_ : Lp w0 w L E X i s σ z cp) : ∃ B : Bool,(B = false -> cp.cm = .see []) /\ ∀ W,Lp w0 W L E X i s σ z cp -> Calls Tryz.prog 32 #[.pointer (some ⟨X,0,none⟩)] W fun e w'=>e = .returned (.bool B) /\ w' = W:=by
 have on : ∀ x : Int,(x != 0) = true -> (∀ W cs f,XZ W X 0 110 L (QW w0.heap.size E) cp cs f -> f 0 = .int .i64 x) -> ∃ B : Bool,(B = false -> cp.cm = .see []) /\ ∀ W,Lp w0 W L E X i s σ z cp -> Calls Tryz.prog 32 #[.pointer (some ⟨X,0,none⟩)] W fun e w'=>e = .returned (.bool B) /\ w' = W:=fun x hx hf=>⟨true,fun e=>(by cases e),fun W H=>by
  obtain ⟨cs,f,C⟩:=H.C
  exact DK C.cm (hf W cs f C) hx⟩
 have is : ∀ W cs f,XZ W X 0 110 L (QW w0.heap.size E) cp cs f -> cp.cm.is W X 0 110 cs f (fun x=>¬ QW w0.heap.size E x /\ x ≠ X /\ ¬ L.has x):=fun W cs f C=>C.is
 cases hcm : cp.cm with
 | see l =>
  rw [hcm] at is
  refine ⟨((0 : Int) != 0 || (l.length : Int) != 0),fun e=>?_,fun W H=>?_⟩
  · cases l with
    | nil=>rfl
    | cons a l=>simp at e;omega
  · obtain ⟨cs,f,C⟩:=H.C
    obtain ⟨f0,f1,-⟩:=is W cs f C
    exact Hm C.cm f0 f1
 | cnt l c=>rw [hcm] at is on;exact on 1 rfl (fun W cs f C=>(is W cs f C).1)
 | opn l κ=>rw [hcm] at is on;exact on 2 rfl (fun W cs f C=>(is W cs f C).1)
 | shut i c=>rw [hcm] at is on;exact on 3 rfl (fun W cs f C=>(is W cs f C).1)
 | head i c u=>rw [hcm] at is on;exact on 4 rfl (fun W cs f C=>(is W cs f C).1)
 | OO i c u W μ=>rw [hcm] at is on;exact on 5 rfl (fun W cs f C=>(is W cs f C).1)
 | leave i c=>rw [hcm] at is on;exact on 6 rfl (fun W cs f C=>(is W cs f C).1)
 | note i c E=>rw [hcm] at is on;exact on 8 rfl (fun W cs f C=>(is W cs f C).1)
 | quiet i c=>rw [hcm] at is on;exact on 9 rfl (fun W cs f C=>(is W cs f C).1)
 | Yf d=>rw [hcm] at is on;exact on 10 rfl (fun W cs f C=>(is W cs f C).1)
 | Y5 i d=>rw [hcm] at is on;exact on 11 rfl (fun W cs f C=>(is W cs f C).1)
end
end
section
def KR (k : IntKind) (w : World) (ao : Option Addr) (n : Nat) (z : Nat -> Int) : Prop :=
 ∀ i,i < n -> ∃ b off,ao = some ⟨b,off,none⟩ /\ w.cell? ⟨b,off + i,none⟩ = some (.int k (z i))
end
section
def OT (w : World) (ao : Option Addr) (n : Nat) (z : Nat -> Bool) : Prop :=
 ∀ i,i < n -> ∃ b off,ao = some ⟨b,off,none⟩ /\ w.cell? ⟨b,off + i,none⟩ = some (.bool (z i))
end
section
set_option maxRecDepth 20000
theorem Mk.tu {t n k m κ Z : Nat} {own : Bool} {q q' : Q} {nx nx' : Nat} {gen : Nat -> Nat} {ls ls' : List Ox} {E H : Int} (M : Mk t n k m κ Z own q nx gen ls q' nx' ls' E H) : E = 6 \/ E = 7 \/ (E = 0 /\ ∃ o,ls' = o :: ls /\ H = YL o.x o.g):=by
 cases M with
 | empty hF=>exact Or.inr (Or.inl rfl)
 | full x F hF g=>exact Or.inl rfl
 | ok x F y' nx' A i hF hx g=>exact Or.inr (Or.inr ⟨rfl,_,rfl,rfl⟩)
set_option maxRecDepth 20000 in
set_option maxHeartbeats 4000000 in
theorem SI (ao qm : Option Addr) (M cap M2 cap2 : Nat) (z : Nat -> Int) (kz : Nat -> Bool) (steps : Int) (w : World) (hr : KR .i64 w ao M z) (hr2 : OT w qm M2 kz) :
 Calls Tryz.prog 6 #[.slice ao M cap,.slice qm M2 cap2,.int .i64 steps] w fun e w'=>e = .returned (.bool true) /\ Below w.heap.size w w':=by
 have HR : Hid (KR .i64 w ao M z):=hr
 have HK : Hid (OT w qm M2 kz):=hr2
 clear hr hr2
 have AR:=fun w=>Sr Xt w
 go_enter Tryz.func6,Tryz.ntmps6
 go_wp2_with (first
  | (go_at_call 9;refine (AR _).mono ?_;rintro e w1 ⟨L,rfl,m1,b1,l1⟩;have v1:=Go.Deep.blk_alloc_new w1 (.cells #[.int .i64 1,.int .i64 30,.int .i64 8,.int .i64 34,.int .i64 100,.int .i64 600,.int .i64 3,.pointer (some ⟨L.p,0,none⟩),.int .i64 0] 28))
  | (go_at_call 10;go_must (refine (NQ _).mono ?_;rintro e w2 ⟨rfl,b2⟩)))
 obtain ⟨E,hE⟩ : ∃ E,w1.heap.size = E:=⟨_,rfl⟩
 rw [hE] at v1
 have hle:=b1.size
 have hnb:=Go.Deep.nblk_alloc w1 (.cells #[.int .i64 1,.int .i64 30,.int .i64 8,.int .i64 34,.int .i64 100,.int .i64 600,.int .i64 3,.pointer (some ⟨L.p,0,none⟩),.int .i64 0] 28)
 have S0 : Hid (Sc 600 w w2 L E 1 30 8 34 0 (Mm.laid 1 30 (ZR 1 30 8 34) 30) []) :=
  ⟨(m1.alloc _).below b2,(b2.block _ (by omega)).trans v1,grow (Z5 b1 _) b2,fun r hr=>(by cases hr),List.Pairwise.nil,l1,fun hh=>by have:=m1.lt _ hh;omega,by omega⟩
 clear v1 m1 b1 l1 b2
 simp only [hE]
 clear hE hle hnb
 go_loopw [9] (fun iv wr=>∃ (j : Nat) (s : Mm) (σ : Nat) (q : Q) (nx : Nat) (gen : Nat -> Nat) (ls : List Ox),iv = .int .i64 j /\ j <= 25 /\ σ <= 61 + 140 * j /\ Sc 600 w wr L E 1 30 8 34 0 s [] /\ YF 1 30 8 34 s σ ⟨q,0,fun _=>0,fun _=>0⟩ nx gen ls /\ Lu 30 q gen ls (2 * j)) (fun iv _=>25 - (intOf iv).toNat)
 case atStart=>exact ⟨0,_,_,_,_,_,[],rfl,by decide,by decide,S0.out,Ec Xt (by decide),qG⟩
 case round =>
 clear S0
 obtain ⟨j,s,σ,q,nx,gen,ls,rfl,hj,hσ,S,RR,V⟩:=hrel
 have HV : Hid (Lu 30 q gen ls (2 * j)):=V
 have HRR : Hid (YF 1 30 8 34 s σ ⟨q,0,fun _=>0,fun _=>0⟩ nx gen ls):=RR
 clear V RR
 by_cases uY : j < M /\ j < 25
 · have h1 : decide ((j : Int) < (M : Int)) = true:=decide_eq_true (by omega)
   have h2 : decide ((j : Int) < 25) = true:=decide_eq_true (by omega)
   have hw1 : wrap64 ((j : Int) + 1) = (j : Int) + 1:=by unfold wrap64;omega
   obtain ⟨zb,zo,rfl,hk⟩:=HR.out j uY.1
   have mD : Hid (w.cell? ⟨zb,zo + j,none⟩ = some (.int .i64 (z j))):=hk
   obtain ⟨Z,hZ,z1,z2⟩:=Eh (z j) 15 4 1 (by decide) (by decide)
   have oM : IntKind.i64.wrap (1 + bits .and .i64 (z j) 15) = (Z : Int):=by
    have : (1 : Int) + bits .and .i64 (z j) 15 = (Z : Int):=hZ
    rw [this,IntKind.wrap_i64];omega
   have oL : Z <= 16:=by omega
   obtain ⟨κ,oK,hκ⟩:=DY z1 oL
   have Ea : σ + 400 < 1000000:=by omega
   obtain ⟨E0,H0,q',nx',ls',ql,MK⟩:=HRR.out.qx (own:=false) (L:=L) Xt z1 oL oK hκ Ea 0
   have oJ : Hid (∀ w : World,Z9 w L s -> Calls Tryz.prog 11 #[.agg #[.int .i64 1,.int .i64 30,.int .i64 8,.int .i64 34,.int .i64 100,.int .i64 600,.int .i64 3,.pointer (some ⟨L.p,0,none⟩),.int .i64 0],.int .i64 Z,.bool false] w fun e w'=>∃ (st : Nat) (s' : Mm) (σ' : Nat),e = .returned (.agg #[.int .i64 E0,.int .u64 H0,.int .i64 0,.int .i64 st]) /\ Z9 w' L s' /\ YF 1 30 8 34 s' σ' ⟨q',0,fun _=>0,fun _=>0⟩ nx' gen ls' /\ σ' <= σ + 100 /\ Only L.has w w'):=MK
   have tq : Hid (Lu 30 q' gen ls' (2 * j + 1)):=HV.out.made ql
   have sZ:=ql.tu
   clear hk hZ oK z2 MK ql
   go_wp2
   refine ZY (fun W=>Sc 600 w W L E 1 30 8 34 0 s []) S ?_
   clear S
   rintro W S1
   obtain ⟨Sz,hSz⟩ : ∃ Sz,W.heap.size = Sz:=⟨_,rfl⟩
   have Ag : ∀ x,L.has x -> x < Sz:=fun x hx=>by have:=S1.mm.lt x hx;omega
   refine XW (Only L.has) Grown (qw (fun W'=>Sc 600 w W' L E 1 30 8 34 0 s []) (fun W'=>∃ s' σ',σ' <= σ + 100 /\ Sc 600 w W' L E 1 30 8 34 0 s' [] /\ YF 1 30 8 34 s' σ' ⟨q',0,fun _=>0,fun _=>0⟩ nx' gen ls')) 9 [7] [.val (.agg #[.int .i64 1,.int .i64 30,.int .i64 8,.int .i64 34,.int .i64 100,.int .i64 600,.int .i64 3,.pointer (some ⟨L.p,0,none⟩),.int .i64 0]),.val (.slice (some ⟨zb,zo,none⟩) M cap),.val (.int .i64 j),.val (.pointer (some ⟨zb,zo + j,none⟩)),.val (.int .i64 (z j)),.val (.int .i64 (bits .and .i64 (z j) 15)),.val (.int .i64 (Z : Nat)),.that (fun _ v=>∃ st : Nat,v = .agg #[.int .i64 E0,.int .u64 H0,.int .i64 0,.int .i64 st]) (fun _ _ _ _ h=>h),.that (fun w' v=>∃ X,v = .pointer (some ⟨X,0,none⟩) /\ Sz <= X /\ At w' X 0 36 #[.int .i64 0,.int .u64 0,.int .i64 0,.int .i64 0] [.int .i64 0,.int .u64 0,.int .i64 0,.int .i64 0]) ?_]
    (by kernel_rfl) (Only.refl _) (fun _ _ _ h k=>h.trans k) (fun x y h=>Only.ZZ h) (GX (fun x y g h=>h.grown g) (fun x y g h=>by obtain ⟨s',σ',h1,h2,h3⟩:=h;exact ⟨s',σ',h1,h2.grown g,h3⟩)) S1.drew (by decide) (by kernel_rfl) (by kernel_rfl) (by kernel_rfl) (by kernel_rfl) (by kernel_rfl) (by kernel_rfl) (by kernel_rfl) (by kernel_rfl) ?_
   · rintro x1 y1 v hg ⟨X,hv,hb,hr⟩
     exact ⟨X,hv,hb,hr.only hg (fun hh=>by have:=Ag _ hh;omega)⟩
   simp only [List.take_succ_cons,List.take_zero,Zn,Act.put,List.setIfInBounds_toArray,List.set_cons_zero,List.set_cons_succ]
   refine ⟨?_,?_,?_,?_,?_,?_,?_,?_,?_⟩
   · intro w' hR _
     apply ol
     have SS:=S1.drew.v.only hR (S1.a.e)
     obtain ⟨y0,y1,y2,y3,y4,y5,y6,y7,y8⟩:=id SS
     go_simp
     exact gl
   · intros;apply ol;go_simp;exact gl
   · intros;apply ol;go_simp;exact gl
   · intro w' hR _
     apply ol
     have hb1 : (0 : Int) <= (j : Int) /\ (j : Int) < (M : Int):=by omega
     go_simp
     exact gl
   · intro w' hR _
     apply ol
     have bb:=PM S1.drew.b hR S1.a.l0
     have z1:=keep' bb mD.out
     go_simp
     exact gl
   · intros;apply ol;go_simp;exact gl
   · intro w' hR _
     apply ol
     go_simp
     exact ⟨Grown.refl _,by first | rfl | exact congrArg (Value.int .i64) oM | (simp only [Want.pred];exact congrArg (Value.int .i64) oM)⟩
   · intro w' hR _ hP
     apply ol
     have hP' : Sc 600 w w' L E 1 30 8 34 0 s []:=hP
     go_simp
     refine (oJ.out w' hP'.mm).mono ?_
     rintro e w'' ⟨st,s',σ',rfl,h1,h2,h3,h4⟩
     exact ⟨_,rfl,⟨h4,s',σ',h3,hP'.mem h4 h1,h2⟩,st,rfl⟩
   intro vD
   refine ⟨?_,?_⟩
   · intro w' hR _
     apply ol
     have hzz : Sz <= w'.heap.size:=by have:=hR.size;have e : W.drew.heap.size = W.heap.size:=rfl;omega
     have qq:=At.new w' 36 [.int .i64 0,.int .u64 0,.int .i64 0,.int .i64 0]
     go_simp
     exact ⟨Zh _ _,_,rfl,hzz,qq⟩
   intro vX w8 hR hP hf
   obtain ⟨D,rfl,sW,d8⟩:=hf.1
   obtain ⟨st,rfl⟩:=hf.2.1
   obtain ⟨s6,σ6,mr,S8,R8⟩ : ∃ s' σ',σ' <= σ + 100 /\ Sc 600 w w8 L E 1 30 8 34 0 s' [] /\ YF 1 30 8 34 s' σ' ⟨q',0,fun _=>0,fun _=>0⟩ nx' gen ls':=hP
   obtain ⟨n1,n2,n3,n4⟩:=S1.new (D:=D) (by omega)
   have x0:=d8.at0 0 rfl
   have x1:=d8.at0 1 rfl
   have x2:=d8.at0 2 rfl
   have x3:=d8.at0 3 rfl
   have xf:=d8.fz
   have S9:=(((S8.Z4 n1 n2 n3 n4 0 (.int .i64 E0)).Z4 n1 n2 n3 n4 1 (.int .u64 H0)).Z4 n1 n2 n3 n4 2 (.int .i64 0)).Z4 n1 n2 n3 n4 3 (.int .i64 st)
   have d9:=(((d8.Yj 0 (.int .i64 E0)).Yj 1 (.int .u64 H0)).Yj 2 (.int .i64 0)).Yj 3 (.int .i64 st)
   have e0:=d9.at0 0 rfl
   have e1:=d9.at0 1 rfl
   have sV : Hid (YF 1 30 8 34 s6 σ6 ⟨q',0,fun _=>0,fun _=>0⟩ nx' gen ls'):=R8
   clear hR hf S8 d8 Ag hSz sW oJ S1 n1 n2 n3 n4 R8
   rcases sZ with rfl | rfl | ⟨rfl,o,hls,hH⟩
   · skip
     have yX : Hid (Sc 600 w _ L E 1 30 8 34 0 s6 []):=S9
     clear S9
     go_wp2
     go_roundw
     case rel=>exact ⟨j + 1,s6,σ6,q',nx',gen,ls',by go_num,by omega,by omega,yX.out,sV.out,tq.out.up (by omega)⟩
     case measure=>exact meas uY.2
   · skip
     have yX : Hid (Sc 600 w _ L E 1 30 8 34 0 s6 []):=S9
     clear S9
     go_wp2
     go_roundw
     case rel=>exact ⟨j + 1,s6,σ6,q',nx',gen,ls',by go_num,by omega,by omega,yX.out,sV.out,tq.out.up (by omega)⟩
     case measure=>exact meas uY.2
   · have qj : Hid (ls' = o :: ls /\ H0 = YL o.x o.g):=⟨hls,hH⟩
     clear hls hH
     by_cases hj2 : j < M2
     · have h3 : (j : Int) < (M2 : Int):=by omega
       obtain ⟨kb,ko,rfl,hkc⟩:=HK.out j hj2
       have kc:=keep' S9.b hkc
       have hb2 : (0 : Int) <= (j : Int) /\ (j : Int) < (M2 : Int):=by omega
       cases hkj : kz j
       · rw [hkj] at kc
         have oI : Hid (YF 1 30 8 34 s6 σ6 ⟨q',0,fun _=>0,fun _=>0⟩ nx' gen (o :: ls)):=by have k:=sV.out;rw [qj.out.1] at k;exact k
         have V9 : Lu 30 q' gen (o :: ls) (2 * j + 1):=by have k:=tq.out;rw [qj.out.1] at k;exact k
         have hg:=oI.out.tm.gn o List.mem_cons_self
         have hgb:=V9.gb o.x
         have how:=V9.ow o List.mem_cons_self
         have mi : Hid (Lu 30 (q'.gone 100 o.x (q'.sw o.x) o.Z o.i) (upd gen o.x (o.g + 1)) ([] ++ ls) (2 * j + 1 + 1)):=V9.gone hg
         have k1:=oI.out.drop (l1:=[]) (o:=o) (l2:=ls) S9.mm Xt (by omega) (by omega) 0
         rw [how,<- qj.out.2] at k1
         obtain ⟨y0,y1,y2,y3,y4,y5,y6,y7,y8⟩:=S9.v
         have yX : Hid (Sc 600 w _ L E 1 30 8 34 0 s6 []):=S9
         clear S9 hkc hgb hg how V9
         go_wp2_with (go_at_call 16;go_must (refine k1.mono ?_;rintro e w9 ⟨kY,s9,σ9,rfl,m9,r9,h9,o9⟩;clear k1))
         go_roundw
         case rel=>exact ⟨j + 1,s9,σ9,_,_,_,_,by go_num,by omega,by omega,yX.out.mem o9 m9,r9,mi.out.up (by omega)⟩
         case measure=>exact meas uY.2
       · rw [hkj] at kc
         have yX : Hid (Sc 600 w _ L E 1 30 8 34 0 s6 []):=S9
         clear S9 hkc
         go_wp2
         go_roundw
         case rel=>exact ⟨j + 1,s6,σ6,q',nx',gen,ls',by go_num,by omega,by omega,yX.out,sV.out,tq.out.up (by omega)⟩
         case measure=>exact meas uY.2
     · have h3 : ¬ (j : Int) < (M2 : Int):=by omega
       have yX : Hid (Sc 600 w _ L E 1 30 8 34 0 s6 []):=S9
       clear S9
       go_wp2
       go_roundw
       case rel=>exact ⟨j + 1,s6,σ6,q',nx',gen,ls',by go_num,by omega,by omega,yX.out,sV.out,tq.out.up (by omega)⟩
       case measure=>exact meas uY.2
 · by_cases hM : j < M
   · have h1 : decide ((j : Int) < (M : Int)) = true:=decide_eq_true (by omega)
     have h2 : decide ((j : Int) < 25) = false:=decide_eq_false (by omega)
     as_aux_lemma =>
     have hSz : Hid (E < wr.heap.size /\ ¬ L.has wr.heap.size /\ w.heap.size <= wr.heap.size):=⟨S.xY,fun hh=>by have:=S.mm.lt _ hh;omega,S.b.size⟩
     have sU:=KO wr L (QW w.heap.size E)
     have S0:=S.grown (Zh _ Vu)
     have D7:=oV HRR.out.tm HRR.out.hd HV.out (by decide) (by decide)
     have hnb:=Go.Deep.nblk_alloc wr Vu
     have L0 : Hid (Lp w (wr.alloc Vu) L E wr.heap.size 0 s σ ⟨q,0,fun _=>0,fun _=>0⟩ cp0):=⟨S0,HRR.out.ld,sU,⟨hSz.out.2.1,hSz.out.2.2,by have:=hSz.out.1;omega,by omega⟩,⟨D7,by decide,fun _ h=>(by cases h)⟩,⟨Nat.le_refl _,Nat.le_refl _,Nat.le_refl _,Nat.le_refl _,Nat.le_refl _⟩,Nat.le_refl _,fun h=>absurd h (by decide),by omega⟩
     obtain ⟨X,hX⟩ : ∃ X,wr.heap.size = X:=⟨_,rfl⟩
     rw [hX] at L0
     clear S sU S0 D7 hnb hSz HRR HV
     obtain ⟨N,hN,hN1,qO⟩:=Eh steps 1023 10 100 (by decide) (by decide)
     have mg : IntKind.i64.wrap (100 + bits .and .i64 steps 1023) = (N : Int):=by
      have : (100 : Int) + bits .and .i64 steps 1023 = (N : Int):=hN
      rw [this,IntKind.wrap_i64];omega
     have mf : wrap64 (100 + bits .and .i64 steps 1023) = (N : Int):=by
      have : (100 : Int) + bits .and .i64 steps 1023 = (N : Int):=hN
      rw [this];unfold wrap64;omega
     clear hN
     go_wp2_with (go_at_call 17;go_must (refine (Vj _).mono ?_;rintro e w3 ⟨rfl,rfl⟩))
     try simp only [hX]
     clear hX
     go_loopw [12] (fun iv wr=>∃ (i : Nat) (s : Mm) (σ : Nat) (z1 : Zt) (cp : Cp),iv = .int .i64 i /\ i <= N /\ Lp w wr L E X i s σ z1 cp) (fun iv _=>N - (intOf iv).toNat)
     case atStart=>exact ⟨0,s,σ,_,_,rfl,Nat.zero_le _,L0.out⟩
     case round =>
     clear L0
     obtain ⟨i,s,σ,z1,cp,rfl,hi,h⟩:=hrel
     by_cases hiN : i < N
     · have h1' : (i : Int) < (N : Int):=by omega
       obtain ⟨A,z2,cp2,hA,ST⟩:=h.step (by omega)
       have qi:=h.b
       have hw2 : wrap64 ((σ : Int) + 1) = (σ : Int) + 1:=by unfold wrap64;omega
       have hq2 : ((σ : Int) + 1 == (σ : Int)) = false:=by simp;omega
       have l9 : ∀ (a1 a2 a3 : Value) (w : World),(Instr.field 71 (.agg #[a1,a2,a3]) 0).run Tryz.prog w = .ok a1 w:=fun a1 a2 a3 w=>by kernel_rfl
       have HA0 : Hid (A < 91 \/ ∃ j u,j < 8 /\ u < 34 /\ A = 91 + j * 34 + u /\ (z2.q.y.ck j).st ≠ 0 /\ u < (z2.q.y.ck j).us):=hA
       clear hA
       as_aux_lemma =>
       have k1:=h.now
       obtain ⟨y0,y1,y2,y3,y4,y5,y6,y7,y8⟩:=h.S.v
       go_wp2_with (go_at_call 28;go_must (refine k1.mono ?_;rintro e w2 ⟨rfl,b2⟩;clear k1;have h2:=h.grown b2;obtain ⟨y0,y1,y2,y3,y4,y5,y6,y7,y8⟩:=h2.S.v;have k2:=ST w2 h2))
       clear h b2
       go_wp2_with (go_at_call 29;go_must (refine k2.mono ?_;rintro e w3 ⟨rfl,s3,h3,hla⟩;clear k2;obtain ⟨y0,y1,y2,y3,y4,y5,y6,y7,y8⟩:=h3.S.v;have k3:=h3.now1))
       clear h2 ST
       go_wp2_with (first
        | (go_at_call 28;refine k3.mono ?_;rintro e w4 ⟨rfl,b4⟩;clear k3;have h4:=h3.grown b4;obtain ⟨y0,y1,y2,y3,y4,y5,y6,y7,y8⟩:=h4.S.v;have k4:=h4.now1)
        | (go_at_call 28;go_must (refine k4.mono ?_;rintro e w5 ⟨rfl,b5⟩;clear k4;have h5:=h4.grown b5;obtain ⟨y0,y1,y2,y3,y4,y5,y6,y7,y8⟩:=h5.S.v;have k5:=last_any h5.S.mm;rw [hla] at k5)))
       clear h3 h4 b4 b5
       go_wp2_with (go_at_call 30;go_must (refine k5.mono ?_;rintro e w6 ⟨rfl,b6⟩;clear k5;have h6:=h5.grown b6;obtain ⟨y0,y1,y2,y3,y4,y5,y6,y7,y8⟩:=h6.S.v))
       clear h5 b6 hla
       rcases HA0.out with hA | ⟨jc,uc,hjc,huc,hA,hst,hus⟩
       · have k6:=Ol 1 30 8 34 100 600 3 A w6 Xt.arena (by omega)
         clear HA0 hA
         go_wp2_with (go_at_call 31;go_must (refine k6.mono ?_;rintro e w7 ⟨rfl,b7⟩;clear k6;have h7:=h6.grown b7))
         go_roundw
         case rel=>exact ⟨i + 1,s3,σ + 1,z2,cp2,by go_num,by omega,h7⟩
         case measure=>exact meas hiN
       · have k6:=Kq 1 30 8 34 100 600 3 A jc w6 Xt.arena (by decide) (by omega) (by omega) (by omega) (by omega)
         have HA : Hid (A = 91 + jc * 34 + uc):=hA
         have oU : A < 400:=by omega
         have HST : Hid ((((z2.q.y.ck jc).st : Int) == 0) = false):=by show _ = _;simpa using hst
         have HU : Hid (uc < (z2.q.y.ck jc).us):=hus
         have hjn : ¬ (jc : Int) < 0:=by omega
         have NR : σ + 1 <= 2000000:=by omega
         clear HA0 hA hst hus
         go_wp2_with (go_at_call 31;go_must (refine k6.mono ?_;rintro e w7 ⟨rfl,b7⟩;clear k6;have h7:=h6.grown b7))
         clear h6 b7
         refine ZY (fun W=>Lp w W L E X (i + 1) s3 (σ + 1) z2 cp2) h7 ?_
         clear h7
         rintro W H1
         have S1:=H1.S
         have HL : Hid (YQ 1 30 8 34 s3 (σ + 1) z2):=H1.l
         obtain ⟨Sz,hSz⟩ : ∃ Sz,W.heap.size = Sz:=⟨_,rfl⟩
         refine Zx Grown 9 [.val (.pointer (some ⟨E,7,none⟩)),.val (.pointer (some ⟨L.p,0,none⟩)),.val (.pointer (some ⟨E,0,none⟩)),.val (.agg #[.int .i64 1,.int .i64 30,.int .i64 8,.int .i64 34,.int .i64 100,.int .i64 600,.int .i64 3]),.val (.int .i64 jc),.val (.int .i64 ((6 + 1 + 30 * 2 + jc * 3 : Nat) : Int)),.val ((.int .u64 (z2.q.y.ck jc).w)),.val ((.agg #[.int .i64 (z2.q.y.ck jc).st,.int .i64 (z2.q.y.ck jc).cl,.int .i64 (z2.q.y.ck jc).us,.int .i64 (z2.q.y.ck jc).sp])),.that (fun w' v=>∃ X,v = .pointer (some ⟨X,0,none⟩) /\ Sz <= X /\ At w' X 0 54 #[.int .i64 0,.int .i64 0,.int .i64 0,.int .i64 0] [.int .i64 0,.int .i64 0,.int .i64 0,.int .i64 0]) ?_] (by kernel_rfl) Grown.refl Grown.trans (by decide) (by kernel_rfl) (by kernel_rfl) (by kernel_rfl) (by kernel_rfl) (by kernel_rfl) (by kernel_rfl) ?_
         · rintro x1 y1 v hg ⟨X,hv,hb,hr⟩
           exact ⟨X,hv,hb,hr.grown hg⟩
         simp only [List.take_succ_cons,List.take_zero,ZE,Act.put,List.setIfInBounds_toArray,List.set_cons_zero,List.set_cons_succ]
         refine ⟨?_,?_,?_,?_,?_,?_,?_,?_,?_⟩
         · intro w' hg _
           apply ol
           have SS:=S1.drew.grown hg
           go_simp
           exact gl
         · intro w' hg _
           apply ol
           have SS:=S1.drew.grown hg
           obtain ⟨y0,y1,y2,y3,y4,y5,y6,y7,y8⟩:=SS.v
           go_simp
           exact gl
         · intro w' hg _
           apply ol
           have SS:=S1.drew.grown hg
           go_simp
           exact gl
         · intro w' hg _
           apply ol
           have SS:=S1.drew.grown hg
           obtain ⟨y0,y1,y2,y3,y4,y5,y6,y7,y8⟩:=SS.v
           go_simp
           exact gl
         · intro w' hg _
           apply ol
           have SS:=S1.drew.grown hg
           go_simp
           exact gl
         · intro w' hg _
           apply ol
           have SS:=S1.drew.grown hg
           go_simp
           refine (Y8 _ _ _ _ _ _ _ _ _ Xt.arena (by omega) (by omega)).mono ?_
           rintro e w'' ⟨rfl,b9⟩
           exact ⟨_,rfl,b9,congrArg (Value.int .i64) (by omega)⟩
         · intro w' hg _
           apply ol
           have SS:=S1.drew.grown hg
           go_simp
           refine (Rq SS.mm (6 + 1 + 30 * 2 + jc * 3) (by have:=HL.out.tw.YN.len;omega) _ (HL.out.tw.YN.LG jc hjc)).mono ?_
           rintro e w'' ⟨rfl,rfl⟩
           exact ⟨_,rfl,Grown.refl _,rfl⟩
         · intro w' hg _
           apply ol
           have SS:=S1.drew.grown hg
           go_simp
           refine (Yu _ _ (HL.out.tw.YN.ok jc hjc) NR _).mono ?_
           rintro e w'' ⟨rfl,b9⟩
           exact ⟨_,rfl,b9,rfl⟩
         refine ⟨?_,?_⟩
         · intro w' hg _
           apply ol
           have hzz : Sz <= w'.heap.size:=by have:=hg.size;have e : W.drew.heap.size = W.heap.size:=rfl;omega
           have qq:=At.new w' 54 [.int .i64 0,.int .i64 0,.int .i64 0,.int .i64 0]
           go_simp
           exact ⟨Zh _ _,_,rfl,hzz,qq⟩
         intro vX w5 hg hf
         obtain ⟨D,rfl,sW,d8⟩:=hf.1
         obtain ⟨n1,n2,n3,n4⟩:=S1.new (D:=D) (by omega)
         have gg:=grow ((Below.refl _ _).drew) hg
         have x0:=d8.at0 0 rfl
         have x1:=d8.at0 1 rfl
         have x2:=d8.at0 2 rfl
         have x3:=d8.at0 3 rfl
         have xf:=d8.fz
         have D9 : Hid (∃ cs,At _ D 0 54 cs [.int .i64 (z2.q.y.ck jc).st,.int .i64 (z2.q.y.ck jc).cl,.int .i64 (z2.q.y.ck jc).us,.int .i64 (z2.q.y.ck jc).sp]):=⟨_,(((d8.Yj 0 (.int .i64 (z2.q.y.ck jc).st)).Yj 1 (.int .i64 (z2.q.y.ck jc).cl)).Yj 2 (.int .i64 (z2.q.y.ck jc).us)).Yj 3 (.int .i64 (z2.q.y.ck jc).sp)⟩
         have H9 : Hid (Lp w _ L E X (i + 1) s3 (σ + 1) z2 cp2):=H1.own (D:=D) (by omega) gg (Only.setCell (a:=⟨D,3,none⟩) (Only.setCell (a:=⟨D,2,none⟩) (Only.setCell (a:=⟨D,1,none⟩) (Only.setCell (a:=⟨D,0,none⟩) (Only.refl (fun k=>k = D) _) (fun _=>rfl) (.int .i64 (z2.q.y.ck jc).st)) (fun _=>rfl) (.int .i64 (z2.q.y.ck jc).cl)) (fun _=>rfl) (.int .i64 (z2.q.y.ck jc).us)) (fun _=>rfl) (.int .i64 (z2.q.y.ck jc).sp))
         clear hf S1 H1 d8 sW hSz n1 n2 n3 n4 gg HL
         go_wp2
         refine ZY (fun W=>Lp w W L E X (i + 1) s3 (σ + 1) z2 cp2 /\ ∃ cs,At W D 0 54 cs [.int .i64 (z2.q.y.ck jc).st,.int .i64 (z2.q.y.ck jc).cl,.int .i64 (z2.q.y.ck jc).us,.int .i64 (z2.q.y.ck jc).sp]) ⟨H9.out,D9.out⟩ ?_
         clear H9 D9 x0 x1 x2 x3 xf
         rintro W ⟨H1,cs1,d1⟩
         have S1:=H1.S
         refine Zu Grown [.val (.pointer (some ⟨D,0,none⟩)),.val (.int .i64 (z2.q.y.ck jc).st),.val (.bool false),.val (.bool false),.val (.int .i64 (A : Nat)),.val (.pointer (some ⟨E,0,none⟩)),.val (.agg #[.int .i64 1,.int .i64 30,.int .i64 8,.int .i64 34,.int .i64 100,.int .i64 600,.int .i64 3]),.val (.int .i64 jc),.val (.int .i64 ((91 + jc * 34 : Nat) : Int)),.val (.int .i64 (uc : Nat)),.val (.pointer (some ⟨D,2,none⟩)),.val (.int .i64 (z2.q.y.ck jc).us),.val (.bool false),.val (.bool false)] (by kernel_rfl) Grown.refl Grown.trans (by kernel_rfl) (by kernel_rfl) (by kernel_rfl) ?_
         simp only [ZE,Act.put,List.setIfInBounds_toArray,List.set_cons_zero,List.set_cons_succ]
         refine ⟨?_,?_,?_,?_,?_,?_,?_,?_,?_,?_,?_,?_,?_,?_,?_⟩
         · intro w' hg _
           apply ol
           have SS:=S1.drew.grown hg
           go_simp
           exact gl
         · intro w' hg _
           apply ol
           have SS:=S1.drew.grown hg
           have dd:=(d1.grown ((Below.refl _ _).drew)).grown hg
           have x0:=dd.at0 0 rfl
           go_simp
           exact gl
         · intro w' hg _
           apply ol
           have SS:=S1.drew.grown hg
           go_simp
           exact ⟨Grown.refl _,congrArg Value.bool HST.out⟩
         · intro w' hg _
           apply ol
           have SS:=S1.drew.grown hg
           go_simp
           exact gl
         · intro w' hg _
           apply ol
           have SS:=S1.drew.grown hg
           go_simp
           exact gl
         · intro w' hg _
           apply ol
           have SS:=S1.drew.grown hg
           go_simp
           exact gl
         · intro w' hg _
           apply ol
           have SS:=S1.drew.grown hg
           obtain ⟨y0,y1,y2,y3,y4,y5,y6,y7,y8⟩:=SS.v
           go_simp
           exact gl
         · intro w' hg _
           apply ol
           have SS:=S1.drew.grown hg
           go_simp
           exact gl
         · intro w' hg _
           apply ol
           have SS:=S1.drew.grown hg
           go_simp
           refine (YD _ _ _ _ _ _ _ _ (((jc * 34 : Nat)) : Int) _ Xt.arena (by omega) (by omega) (by omega)).mono ?_
           rintro e w'' ⟨rfl,b9⟩
           exact ⟨_,rfl,b9,congrArg (Value.int .i64) (by omega)⟩
         · intro w' hg _
           apply ol
           have SS:=S1.drew.grown hg
           go_simp
           exact ⟨Grown.refl _,congrArg (Value.int .i64) (by rw [IntKind.wrap_i64];have:=HA.out;omega)⟩
         · intro w' hg _
           apply ol
           have SS:=S1.drew.grown hg
           go_simp
           exact gl
         · intro w' hg _
           apply ol
           have SS:=S1.drew.grown hg
           have dd:=(d1.grown ((Below.refl _ _).drew)).grown hg
           have x2:=dd.at0 2 rfl
           go_simp
           exact gl
         · intro w' hg _
           apply ol
           have SS:=S1.drew.grown hg
           go_simp
           exact ⟨Grown.refl _,congrArg Value.bool (decide_eq_false (by have:=HU.out;omega))⟩
         · intro w' hg _
           apply ol
           have SS:=S1.drew.grown hg
           go_simp
           exact gl
         intro w9 hg _
         have h9:=H1.grown (grow ((Below.refl _ _).drew) hg)
         clear hg S1 H1 d1
         go_wp2
         go_roundw
         case rel=>exact ⟨i + 1,s3,σ + 1,z2,cp2,by go_num,by omega,h9⟩
         case measure=>exact meas hiN
     · have h1' : ¬ (i : Int) < (N : Int):=by omega
       as_aux_lemma =>
       obtain ⟨B,hB,BK⟩:=h.busy
       have hc2:=h.c2
       have qh : Hid (B = false -> 0 < cp.wk.rd):=fun e=>h.c3 (by omega) (hB e)
       clear hB
       have fl : ∀ (a1 a2 a3 a4 a5 : Value) (w : World),(Instr.field 63 (.agg #[a1,a2,a3,a4,a5]) 4).run Tryz.prog w = .ok a5 w:=fun a1 a2 a3 a4 a5 w=>by kernel_rfl
       have wk : ∀ W,Lp w W L E X i s σ z1 cp -> Calls Tryz.prog 25 #[.pointer (some ⟨X,0,none⟩)] W fun e w'=>e = .returned (.agg #[.int .i64 cp.wk.ev,.int .i64 cp.wk.lf,.int .i64 cp.wk.fr,.int .i64 cp.wk.mv,.int .i64 cp.wk.rd]) /\ Below W.heap.size W w':=fun W H=>by obtain ⟨cs,f,C⟩:=H.C;exact XI C.cm C.ct.Qa C.ct.P9 C.ct.Qi C.ct.P8 C.ct.NK
       have ik : ∀ W,Lp w W L E X i s σ z1 cp -> Calls Tryz.prog 27 #[.pointer (some ⟨X,0,none⟩)] W fun e w'=>e = .returned (.int .i64 cp.Uz) /\ w' = W:=fun W H=>by obtain ⟨cs,f,C⟩:=H.C;exact PG C.cm C.ct.Dh
       have hle : (cp.Uz : Int) <= (cp.wk.rd : Int):=by omega
       go_wp2_with (go_at_call 25;go_must (refine (PH _).mono ?_;rintro e w2 ⟨rfl,b2⟩;have h2:=h.grown b2))
       clear h b2
       go_wp2_with (go_at_call 32;go_must (refine (PD _).mono ?_;rintro e w3 ⟨rfl,rfl⟩))
       go_wp2_with (go_at_call 27;go_must (refine (PE _).mono ?_;rintro e w3 ⟨rfl,rfl⟩))
       have k4:=BK _ h2
       cases B
       · have hrd : (0 : Int) < (cp.wk.rd : Int):=by have:=qh.out rfl;omega
         go_wp2_with (go_at_call 32;go_must (refine k4.mono ?_;rintro e w4 ⟨rfl,rfl⟩;clear k4;have k5:=wk _ h2))
         go_wp2_with (go_at_call 25;go_must (refine k5.mono ?_;rintro e w5 ⟨rfl,b5⟩;clear k5;have h5:=h2.grown b5;have k6:=ik _ h5))
         go_wp2_with (go_at_call 27;go_must (refine k6.mono ?_;rintro e w6 ⟨rfl,rfl⟩;clear k6;have k7:=wk _ h5))
         go_wp2_with (go_at_call 25;go_must (refine k7.mono ?_;rintro e w7 ⟨rfl,b7⟩;clear k7))
         go_ret
         exact ⟨rfl,(h5.grown b7).S.b⟩
       · go_wp2_with (go_at_call 32;go_must (refine k4.mono ?_;rintro e w4 ⟨rfl,rfl⟩;clear k4;have k6:=ik _ h2))
         go_wp2_with (go_at_call 27;go_must (refine k6.mono ?_;rintro e w6 ⟨rfl,rfl⟩;clear k6;have k7:=wk _ h2))
         go_wp2_with (go_at_call 25;go_must (refine k7.mono ?_;rintro e w7 ⟨rfl,b7⟩;clear k7))
         go_ret
         exact ⟨rfl,(h2.grown b7).S.b⟩
   · have h1 : decide ((j : Int) < (M : Int)) = false:=decide_eq_false (by omega)
     as_aux_lemma =>
     have hSz : Hid (E < wr.heap.size /\ ¬ L.has wr.heap.size /\ w.heap.size <= wr.heap.size):=⟨S.xY,fun hh=>by have:=S.mm.lt _ hh;omega,S.b.size⟩
     have sU:=KO wr L (QW w.heap.size E)
     have S0:=S.grown (Zh _ Vu)
     have D7:=oV HRR.out.tm HRR.out.hd HV.out (by decide) (by decide)
     have hnb:=Go.Deep.nblk_alloc wr Vu
     have L0 : Hid (Lp w (wr.alloc Vu) L E wr.heap.size 0 s σ ⟨q,0,fun _=>0,fun _=>0⟩ cp0):=⟨S0,HRR.out.ld,sU,⟨hSz.out.2.1,hSz.out.2.2,by have:=hSz.out.1;omega,by omega⟩,⟨D7,by decide,fun _ h=>(by cases h)⟩,⟨Nat.le_refl _,Nat.le_refl _,Nat.le_refl _,Nat.le_refl _,Nat.le_refl _⟩,Nat.le_refl _,fun h=>absurd h (by decide),by omega⟩
     obtain ⟨X,hX⟩ : ∃ X,wr.heap.size = X:=⟨_,rfl⟩
     rw [hX] at L0
     clear S sU S0 D7 hnb hSz HRR HV
     obtain ⟨N,hN,hN1,qO⟩:=Eh steps 1023 10 100 (by decide) (by decide)
     have mg : IntKind.i64.wrap (100 + bits .and .i64 steps 1023) = (N : Int):=by
      have : (100 : Int) + bits .and .i64 steps 1023 = (N : Int):=hN
      rw [this,IntKind.wrap_i64];omega
     have mf : wrap64 (100 + bits .and .i64 steps 1023) = (N : Int):=by
      have : (100 : Int) + bits .and .i64 steps 1023 = (N : Int):=hN
      rw [this];unfold wrap64;omega
     clear hN
     go_wp2_with (go_at_call 17;go_must (refine (Vj _).mono ?_;rintro e w3 ⟨rfl,rfl⟩))
     try simp only [hX]
     clear hX
     go_loopw [12] (fun iv wr=>∃ (i : Nat) (s : Mm) (σ : Nat) (z1 : Zt) (cp : Cp),iv = .int .i64 i /\ i <= N /\ Lp w wr L E X i s σ z1 cp) (fun iv _=>N - (intOf iv).toNat)
     case atStart=>exact ⟨0,s,σ,_,_,rfl,Nat.zero_le _,L0.out⟩
     case round =>
     clear L0
     obtain ⟨i,s,σ,z1,cp,rfl,hi,h⟩:=hrel
     by_cases hiN : i < N
     · have h1' : (i : Int) < (N : Int):=by omega
       obtain ⟨A,z2,cp2,hA,ST⟩:=h.step (by omega)
       have qi:=h.b
       have hw2 : wrap64 ((σ : Int) + 1) = (σ : Int) + 1:=by unfold wrap64;omega
       have hq2 : ((σ : Int) + 1 == (σ : Int)) = false:=by simp;omega
       have l9 : ∀ (a1 a2 a3 : Value) (w : World),(Instr.field 71 (.agg #[a1,a2,a3]) 0).run Tryz.prog w = .ok a1 w:=fun a1 a2 a3 w=>by kernel_rfl
       have HA0 : Hid (A < 91 \/ ∃ j u,j < 8 /\ u < 34 /\ A = 91 + j * 34 + u /\ (z2.q.y.ck j).st ≠ 0 /\ u < (z2.q.y.ck j).us):=hA
       clear hA
       as_aux_lemma =>
       have k1:=h.now
       obtain ⟨y0,y1,y2,y3,y4,y5,y6,y7,y8⟩:=h.S.v
       go_wp2_with (go_at_call 28;go_must (refine k1.mono ?_;rintro e w2 ⟨rfl,b2⟩;clear k1;have h2:=h.grown b2;obtain ⟨y0,y1,y2,y3,y4,y5,y6,y7,y8⟩:=h2.S.v;have k2:=ST w2 h2))
       clear h b2
       go_wp2_with (go_at_call 29;go_must (refine k2.mono ?_;rintro e w3 ⟨rfl,s3,h3,hla⟩;clear k2;obtain ⟨y0,y1,y2,y3,y4,y5,y6,y7,y8⟩:=h3.S.v;have k3:=h3.now1))
       clear h2 ST
       go_wp2_with (first
        | (go_at_call 28;refine k3.mono ?_;rintro e w4 ⟨rfl,b4⟩;clear k3;have h4:=h3.grown b4;obtain ⟨y0,y1,y2,y3,y4,y5,y6,y7,y8⟩:=h4.S.v;have k4:=h4.now1)
        | (go_at_call 28;go_must (refine k4.mono ?_;rintro e w5 ⟨rfl,b5⟩;clear k4;have h5:=h4.grown b5;obtain ⟨y0,y1,y2,y3,y4,y5,y6,y7,y8⟩:=h5.S.v;have k5:=last_any h5.S.mm;rw [hla] at k5)))
       clear h3 h4 b4 b5
       go_wp2_with (go_at_call 30;go_must (refine k5.mono ?_;rintro e w6 ⟨rfl,b6⟩;clear k5;have h6:=h5.grown b6;obtain ⟨y0,y1,y2,y3,y4,y5,y6,y7,y8⟩:=h6.S.v))
       clear h5 b6 hla
       rcases HA0.out with hA | ⟨jc,uc,hjc,huc,hA,hst,hus⟩
       · have k6:=Ol 1 30 8 34 100 600 3 A w6 Xt.arena (by omega)
         clear HA0 hA
         go_wp2_with (go_at_call 31;go_must (refine k6.mono ?_;rintro e w7 ⟨rfl,b7⟩;clear k6;have h7:=h6.grown b7))
         go_roundw
         case rel=>exact ⟨i + 1,s3,σ + 1,z2,cp2,by go_num,by omega,h7⟩
         case measure=>exact meas hiN
       · have k6:=Kq 1 30 8 34 100 600 3 A jc w6 Xt.arena (by decide) (by omega) (by omega) (by omega) (by omega)
         have HA : Hid (A = 91 + jc * 34 + uc):=hA
         have oU : A < 400:=by omega
         have HST : Hid ((((z2.q.y.ck jc).st : Int) == 0) = false):=by show _ = _;simpa using hst
         have HU : Hid (uc < (z2.q.y.ck jc).us):=hus
         have hjn : ¬ (jc : Int) < 0:=by omega
         have NR : σ + 1 <= 2000000:=by omega
         clear HA0 hA hst hus
         go_wp2_with (go_at_call 31;go_must (refine k6.mono ?_;rintro e w7 ⟨rfl,b7⟩;clear k6;have h7:=h6.grown b7))
         clear h6 b7
         refine ZY (fun W=>Lp w W L E X (i + 1) s3 (σ + 1) z2 cp2) h7 ?_
         clear h7
         rintro W H1
         have S1:=H1.S
         have HL : Hid (YQ 1 30 8 34 s3 (σ + 1) z2):=H1.l
         obtain ⟨Sz,hSz⟩ : ∃ Sz,W.heap.size = Sz:=⟨_,rfl⟩
         refine Zx Grown 9 [.val (.pointer (some ⟨E,7,none⟩)),.val (.pointer (some ⟨L.p,0,none⟩)),.val (.pointer (some ⟨E,0,none⟩)),.val (.agg #[.int .i64 1,.int .i64 30,.int .i64 8,.int .i64 34,.int .i64 100,.int .i64 600,.int .i64 3]),.val (.int .i64 jc),.val (.int .i64 ((6 + 1 + 30 * 2 + jc * 3 : Nat) : Int)),.val ((.int .u64 (z2.q.y.ck jc).w)),.val ((.agg #[.int .i64 (z2.q.y.ck jc).st,.int .i64 (z2.q.y.ck jc).cl,.int .i64 (z2.q.y.ck jc).us,.int .i64 (z2.q.y.ck jc).sp])),.that (fun w' v=>∃ X,v = .pointer (some ⟨X,0,none⟩) /\ Sz <= X /\ At w' X 0 54 #[.int .i64 0,.int .i64 0,.int .i64 0,.int .i64 0] [.int .i64 0,.int .i64 0,.int .i64 0,.int .i64 0]) ?_] (by kernel_rfl) Grown.refl Grown.trans (by decide) (by kernel_rfl) (by kernel_rfl) (by kernel_rfl) (by kernel_rfl) (by kernel_rfl) (by kernel_rfl) ?_
         · rintro x1 y1 v hg ⟨X,hv,hb,hr⟩
           exact ⟨X,hv,hb,hr.grown hg⟩
         simp only [List.take_succ_cons,List.take_zero,ZE,Act.put,List.setIfInBounds_toArray,List.set_cons_zero,List.set_cons_succ]
         refine ⟨?_,?_,?_,?_,?_,?_,?_,?_,?_⟩
         · intro w' hg _
           apply ol
           have SS:=S1.drew.grown hg
           go_simp
           exact gl
         · intro w' hg _
           apply ol
           have SS:=S1.drew.grown hg
           obtain ⟨y0,y1,y2,y3,y4,y5,y6,y7,y8⟩:=SS.v
           go_simp
           exact gl
         · intro w' hg _
           apply ol
           have SS:=S1.drew.grown hg
           go_simp
           exact gl
         · intro w' hg _
           apply ol
           have SS:=S1.drew.grown hg
           obtain ⟨y0,y1,y2,y3,y4,y5,y6,y7,y8⟩:=SS.v
           go_simp
           exact gl
         · intro w' hg _
           apply ol
           have SS:=S1.drew.grown hg
           go_simp
           exact gl
         · intro w' hg _
           apply ol
           have SS:=S1.drew.grown hg
           go_simp
           refine (Y8 _ _ _ _ _ _ _ _ _ Xt.arena (by omega) (by omega)).mono ?_
           rintro e w'' ⟨rfl,b9⟩
           exact ⟨_,rfl,b9,congrArg (Value.int .i64) (by omega)⟩
         · intro w' hg _
           apply ol
           have SS:=S1.drew.grown hg
           go_simp
           refine (Rq SS.mm (6 + 1 + 30 * 2 + jc * 3) (by have:=HL.out.tw.YN.len;omega) _ (HL.out.tw.YN.LG jc hjc)).mono ?_
           rintro e w'' ⟨rfl,rfl⟩
           exact ⟨_,rfl,Grown.refl _,rfl⟩
         · intro w' hg _
           apply ol
           have SS:=S1.drew.grown hg
           go_simp
           refine (Yu _ _ (HL.out.tw.YN.ok jc hjc) NR _).mono ?_
           rintro e w'' ⟨rfl,b9⟩
           exact ⟨_,rfl,b9,rfl⟩
         refine ⟨?_,?_⟩
         · intro w' hg _
           apply ol
           have hzz : Sz <= w'.heap.size:=by have:=hg.size;have e : W.drew.heap.size = W.heap.size:=rfl;omega
           have qq:=At.new w' 54 [.int .i64 0,.int .i64 0,.int .i64 0,.int .i64 0]
           go_simp
           exact ⟨Zh _ _,_,rfl,hzz,qq⟩
         intro vX w5 hg hf
         obtain ⟨D,rfl,sW,d8⟩:=hf.1
         obtain ⟨n1,n2,n3,n4⟩:=S1.new (D:=D) (by omega)
         have gg:=grow ((Below.refl _ _).drew) hg
         have x0:=d8.at0 0 rfl
         have x1:=d8.at0 1 rfl
         have x2:=d8.at0 2 rfl
         have x3:=d8.at0 3 rfl
         have xf:=d8.fz
         have D9 : Hid (∃ cs,At _ D 0 54 cs [.int .i64 (z2.q.y.ck jc).st,.int .i64 (z2.q.y.ck jc).cl,.int .i64 (z2.q.y.ck jc).us,.int .i64 (z2.q.y.ck jc).sp]):=⟨_,(((d8.Yj 0 (.int .i64 (z2.q.y.ck jc).st)).Yj 1 (.int .i64 (z2.q.y.ck jc).cl)).Yj 2 (.int .i64 (z2.q.y.ck jc).us)).Yj 3 (.int .i64 (z2.q.y.ck jc).sp)⟩
         have H9 : Hid (Lp w _ L E X (i + 1) s3 (σ + 1) z2 cp2):=H1.own (D:=D) (by omega) gg (Only.setCell (a:=⟨D,3,none⟩) (Only.setCell (a:=⟨D,2,none⟩) (Only.setCell (a:=⟨D,1,none⟩) (Only.setCell (a:=⟨D,0,none⟩) (Only.refl (fun k=>k = D) _) (fun _=>rfl) (.int .i64 (z2.q.y.ck jc).st)) (fun _=>rfl) (.int .i64 (z2.q.y.ck jc).cl)) (fun _=>rfl) (.int .i64 (z2.q.y.ck jc).us)) (fun _=>rfl) (.int .i64 (z2.q.y.ck jc).sp))
         clear hf S1 H1 d8 sW hSz n1 n2 n3 n4 gg HL
         go_wp2
         refine ZY (fun W=>Lp w W L E X (i + 1) s3 (σ + 1) z2 cp2 /\ ∃ cs,At W D 0 54 cs [.int .i64 (z2.q.y.ck jc).st,.int .i64 (z2.q.y.ck jc).cl,.int .i64 (z2.q.y.ck jc).us,.int .i64 (z2.q.y.ck jc).sp]) ⟨H9.out,D9.out⟩ ?_
         clear H9 D9 x0 x1 x2 x3 xf
         rintro W ⟨H1,cs1,d1⟩
         have S1:=H1.S
         refine Zu Grown [.val (.pointer (some ⟨D,0,none⟩)),.val (.int .i64 (z2.q.y.ck jc).st),.val (.bool false),.val (.bool false),.val (.int .i64 (A : Nat)),.val (.pointer (some ⟨E,0,none⟩)),.val (.agg #[.int .i64 1,.int .i64 30,.int .i64 8,.int .i64 34,.int .i64 100,.int .i64 600,.int .i64 3]),.val (.int .i64 jc),.val (.int .i64 ((91 + jc * 34 : Nat) : Int)),.val (.int .i64 (uc : Nat)),.val (.pointer (some ⟨D,2,none⟩)),.val (.int .i64 (z2.q.y.ck jc).us),.val (.bool false),.val (.bool false)] (by kernel_rfl) Grown.refl Grown.trans (by kernel_rfl) (by kernel_rfl) (by kernel_rfl) ?_
         simp only [ZE,Act.put,List.setIfInBounds_toArray,List.set_cons_zero,List.set_cons_succ]
         refine ⟨?_,?_,?_,?_,?_,?_,?_,?_,?_,?_,?_,?_,?_,?_,?_⟩
         · intro w' hg _
           apply ol
           have SS:=S1.drew.grown hg
           go_simp
           exact gl
         · intro w' hg _
           apply ol
           have SS:=S1.drew.grown hg
           have dd:=(d1.grown ((Below.refl _ _).drew)).grown hg
           have x0:=dd.at0 0 rfl
           go_simp
           exact gl
         · intro w' hg _
           apply ol
           have SS:=S1.drew.grown hg
           go_simp
           exact ⟨Grown.refl _,congrArg Value.bool HST.out⟩
         · intro w' hg _
           apply ol
           have SS:=S1.drew.grown hg
           go_simp
           exact gl
         · intro w' hg _
           apply ol
           have SS:=S1.drew.grown hg
           go_simp
           exact gl
         · intro w' hg _
           apply ol
           have SS:=S1.drew.grown hg
           go_simp
           exact gl
         · intro w' hg _
           apply ol
           have SS:=S1.drew.grown hg
           obtain ⟨y0,y1,y2,y3,y4,y5,y6,y7,y8⟩:=SS.v
           go_simp
           exact gl
         · intro w' hg _
           apply ol
           have SS:=S1.drew.grown hg
           go_simp
           exact gl
         · intro w' hg _
           apply ol
           have SS:=S1.drew.grown hg
           go_simp
           refine (YD _ _ _ _ _ _ _ _ (((jc * 34 : Nat)) : Int) _ Xt.arena (by omega) (by omega) (by omega)).mono ?_
           rintro e w'' ⟨rfl,b9⟩
           exact ⟨_,rfl,b9,congrArg (Value.int .i64) (by omega)⟩
         · intro w' hg _
           apply ol
           have SS:=S1.drew.grown hg
           go_simp
           exact ⟨Grown.refl _,congrArg (Value.int .i64) (by rw [IntKind.wrap_i64];have:=HA.out;omega)⟩
         · intro w' hg _
           apply ol
           have SS:=S1.drew.grown hg
           go_simp
           exact gl
         · intro w' hg _
           apply ol
           have SS:=S1.drew.grown hg
           have dd:=(d1.grown ((Below.refl _ _).drew)).grown hg
           have x2:=dd.at0 2 rfl
           go_simp
           exact gl
         · intro w' hg _
           apply ol
           have SS:=S1.drew.grown hg
           go_simp
           exact ⟨Grown.refl _,congrArg Value.bool (decide_eq_false (by have:=HU.out;omega))⟩
         · intro w' hg _
           apply ol
           have SS:=S1.drew.grown hg
           go_simp
           exact gl
         intro w9 hg _
         have h9:=H1.grown (grow ((Below.refl _ _).drew) hg)
         clear hg S1 H1 d1
         go_wp2
         go_roundw
         case rel=>exact ⟨i + 1,s3,σ + 1,z2,cp2,by go_num,by omega,h9⟩
         case measure=>exact meas hiN
     · have h1' : ¬ (i : Int) < (N : Int):=by omega
       as_aux_lemma =>
       obtain ⟨B,hB,BK⟩:=h.busy
       have hc2:=h.c2
       have qh : Hid (B = false -> 0 < cp.wk.rd):=fun e=>h.c3 (by omega) (hB e)
       clear hB
       have fl : ∀ (a1 a2 a3 a4 a5 : Value) (w : World),(Instr.field 63 (.agg #[a1,a2,a3,a4,a5]) 4).run Tryz.prog w = .ok a5 w:=fun a1 a2 a3 a4 a5 w=>by kernel_rfl
       have wk : ∀ W,Lp w W L E X i s σ z1 cp -> Calls Tryz.prog 25 #[.pointer (some ⟨X,0,none⟩)] W fun e w'=>e = .returned (.agg #[.int .i64 cp.wk.ev,.int .i64 cp.wk.lf,.int .i64 cp.wk.fr,.int .i64 cp.wk.mv,.int .i64 cp.wk.rd]) /\ Below W.heap.size W w':=fun W H=>by obtain ⟨cs,f,C⟩:=H.C;exact XI C.cm C.ct.Qa C.ct.P9 C.ct.Qi C.ct.P8 C.ct.NK
       have ik : ∀ W,Lp w W L E X i s σ z1 cp -> Calls Tryz.prog 27 #[.pointer (some ⟨X,0,none⟩)] W fun e w'=>e = .returned (.int .i64 cp.Uz) /\ w' = W:=fun W H=>by obtain ⟨cs,f,C⟩:=H.C;exact PG C.cm C.ct.Dh
       have hle : (cp.Uz : Int) <= (cp.wk.rd : Int):=by omega
       go_wp2_with (go_at_call 25;go_must (refine (PH _).mono ?_;rintro e w2 ⟨rfl,b2⟩;have h2:=h.grown b2))
       clear h b2
       go_wp2_with (go_at_call 32;go_must (refine (PD _).mono ?_;rintro e w3 ⟨rfl,rfl⟩))
       go_wp2_with (go_at_call 27;go_must (refine (PE _).mono ?_;rintro e w3 ⟨rfl,rfl⟩))
       have k4:=BK _ h2
       cases B
       · have hrd : (0 : Int) < (cp.wk.rd : Int):=by have:=qh.out rfl;omega
         go_wp2_with (go_at_call 32;go_must (refine k4.mono ?_;rintro e w4 ⟨rfl,rfl⟩;clear k4;have k5:=wk _ h2))
         go_wp2_with (go_at_call 25;go_must (refine k5.mono ?_;rintro e w5 ⟨rfl,b5⟩;clear k5;have h5:=h2.grown b5;have k6:=ik _ h5))
         go_wp2_with (go_at_call 27;go_must (refine k6.mono ?_;rintro e w6 ⟨rfl,rfl⟩;clear k6;have k7:=wk _ h5))
         go_wp2_with (go_at_call 25;go_must (refine k7.mono ?_;rintro e w7 ⟨rfl,b7⟩;clear k7))
         go_ret
         exact ⟨rfl,(h5.grown b7).S.b⟩
       · go_wp2_with (go_at_call 32;go_must (refine k4.mono ?_;rintro e w4 ⟨rfl,rfl⟩;clear k4;have k6:=ik _ h2))
         go_wp2_with (go_at_call 27;go_must (refine k6.mono ?_;rintro e w6 ⟨rfl,rfl⟩;clear k6;have k7:=wk _ h2))
         go_wp2_with (go_at_call 25;go_must (refine k7.mono ?_;rintro e w7 ⟨rfl,b7⟩;clear k7))
         go_ret
         exact ⟨rfl,(h2.grown b7).S.b⟩
end
end Go.Proofs.YtmnnhjhhhfabiaaGreat
