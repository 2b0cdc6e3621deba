import Derived.Test.YtkgpffcnimmdkaaGreatMovAwake
namespace Go.Proofs.YtkgpffcnimmdkaaGreat
open Go.RowKit
def Ph (Z c V : Nat) (val : Nat -> Int) (q : Q) : Prop :=
 (∃ st,(st = 1 \/ st = 2) /\ AtA Z c V st val q) \/ (∃ h l d,(h = 1 \/ h = 2) /\ AtB Z c V ((h : Nat) : Int) l d val q)
section
variable {wr : Bool} {Z c V r : Nat} {val : Nat -> Int} {q : Q} {yE : Y} {μ : Mv}
theorem Rn.ph {f : Nat} {v : Int} {jf jc : Nat} (h : Rn wr Z c V f val q v jf jc) : Ph Z c V val q:=by
 rcases h with ⟨hA,-⟩ | ⟨-,hA,-⟩
 · exact Or.inl ⟨2,Or.inr rfl,hA⟩
 · exact Or.inl ⟨1,Or.inl rfl,hA⟩
theorem MI.ph (h : MI wr Z c V val yE r q μ) : Ph Z c V val q:=by
 cases μ with
 | see=>exact Or.inl ⟨1,Or.inl rfl,h.1⟩
 | place=>exact Or.inl ⟨1,Or.inl rfl,h.1⟩
 | head=>exact Or.inl ⟨1,Or.inl rfl,h.1⟩
 | mark=>exact Or.inl ⟨1,Or.inl rfl,h.1⟩
 | load=>exact h.1.ph
 | freeze=>exact h.1.ph
 | copy=>exact h.1.ph
 | shw=>exact h.1.ph
 | ready=>exact Or.inr ⟨1,_,_,Or.inl rfl,h.1⟩
 | grow=>exact Or.inr ⟨2,_,_,Or.inr rfl,h.1⟩
 | fall=>exact Or.inr ⟨2,_,_,Or.inr rfl,h.1⟩
 | bury=>exact Or.inl ⟨1,Or.inl rfl,h.2.2.1⟩
 | over=>rcases h with h | h;exact Or.inr ⟨2,_,_,Or.inr rfl,h.2.1⟩;exact Or.inl ⟨1,Or.inl rfl,h.2.2⟩
structure Seen (c V : Nat) (cur v : Int) : Prop where
 wd : Wd v
 g : genOf v = 1
 s : v % 8 = 1 \/ v % 8 = 2
 a : (adOf v = base 4 8 4 20 c /\ verOf' v <= V) \/ (adOf v = base 4 8 4 20 (c + 1) /\ adOf cur = base 4 8 4 20 (c + 1))
theorem Ph.seen (h : Ph Z c V val q) : Seen c V (q.sw 0) (q.sw 0):=by
 rcases h with ⟨st,hs,hA⟩ | ⟨h,l,d,-,hB⟩
 · exact ⟨hA.sw.wd,hA.sw.g,by rw [hA.sw.s];omega,Or.inl ⟨hA.sw.a,Nat.le_of_eq hA.sw.r⟩⟩
 · exact ⟨hB.sw.wd,hB.sw.g,Or.inl hB.sw.s,Or.inr ⟨hB.sw.a,hB.sw.a⟩⟩
theorem Ph.cm (h : Ph Z c V val q) : Com Z c val q:=by
 rcases h with ⟨st,-,hA⟩ | ⟨h,l,d,-,hB⟩
 · exact hA.cm
 · exact hB.cm
theorem Ph.obj (h : Ph Z c V val q) {v : Int} (S : Seen c V (q.sw 0) v) : ∃ i,Obj9 4 8 4 20 v Z i /\ szOf (q.dw (adOf v)) = Z /\ ownOf (q.dw (adOf v)) = false:=by
 have cm:=h.cm
 have z2:=cm.z2
 have hc:=cm.c2
 have hl : lifeB (v % 8) = true:=by rcases S.s with e | e <;> rw [e] <;> rfl
 rcases S.a with ⟨e,-⟩ | ⟨e,e'⟩
 · have d:=hw_dec (c:=c) z2 (kd:=2) (by decide)
   refine ⟨c,⟨S.wd,hl,cm.z1,z2,by omega,0,by omega,by rw [e];rfl⟩,?_,?_⟩
   · rw [e,cm.hA];exact d.1
   · rw [e,cm.hA];exact d.2.1
 · rcases h with ⟨st,-,hA⟩ | ⟨h,l,d,hh,hB⟩
   · have e3:=hA.sw.a
     rw [e',bs_is,bs_is] at e3
     omega
   · have dd:=hw_dec (c:=c) z2 (kd:=h) (by omega)
     refine ⟨c + 1,⟨S.wd,hl,cm.z1,z2,by omega,0,by omega,by rw [e];rfl⟩,?_,?_⟩
     · rw [e,hB.hB];exact dd.1
     · rw [e,hB.hB];exact dd.2.1
theorem mi_stays {μ' : Mv} {q' : Q} (h : MI wr Z c V val yE r q μ) (ht : mvTurn (mw Z c) 4 20 (base 4 8 4 20) q μ = (q',μ')) (e : adOf (q.sw 0) = base 4 8 4 20 (c + 1)) : q'.sw 0 = q.sw 0:=by
 have no : ∀ {st : Nat},AtA Z c V st val q -> False:=fun hA=>by
  have e3:=hA.sw.a
  rw [e,bs_is,bs_is] at e3
  omega
 cases μ with
 | see=>exact (no h.1).elim
 | place=>exact (no h.1).elim
 | head=>exact (no h.1).elim
 | mark=>exact (no h.1).elim
 | load=>rcases h.1 with ⟨hA,-⟩ | ⟨-,hA,-⟩ <;> exact (no hA).elim
 | freeze=>rcases h.1 with ⟨hA,-⟩ | ⟨-,hA,-⟩ <;> exact (no hA).elim
 | copy=>rcases h.1 with ⟨hA,-⟩ | ⟨-,hA,-⟩ <;> exact (no hA).elim
 | shw=>rcases h.1 with ⟨hA,-⟩ | ⟨-,hA,-⟩ <;> exact (no hA).elim
 | ready=>obtain ⟨rfl,-⟩:=Prod.mk.inj ht;rfl
 | grow=>obtain ⟨rfl,-⟩:=Prod.mk.inj ht;rfl
 | fall=>obtain ⟨rfl,-⟩:=Prod.mk.inj ht;rfl
 | bury=>exact (no h.2.2.1).elim
 | over=>obtain ⟨rfl,-⟩:=Prod.mk.inj ht;rfl
theorem Seen.up {V' : Nat} {cur cur' v : Int} (S : Seen c V cur v) (hV : V <= V') (h : adOf cur = base 4 8 4 20 (c + 1) -> cur' = cur) : Seen c V' cur' v :=
 ⟨S.wd,S.g,S.s,by
  rcases S.a with ⟨e,e'⟩ | ⟨e,e'⟩
  · exact Or.inl ⟨e,by omega⟩
  · exact Or.inr ⟨e,by rw [h e'];exact e'⟩⟩
end
end Go.Proofs.YtkgpffcnimmdkaaGreat

namespace Go.Proofs.YtkgpffcnimmdkaaGreat
open Go.RowKit
structure ScRA (w0 : World) (L : Loc) (E H M X : Nat) : Prop where
 l : ¬ L.has X
 z : w0.heap.size <= X
 e : E ≠ X
 h : H ≠ X
 m : M ≠ X
def AcO (W : World) (X : Nat) (Wn : Wt) (α : Ac) : Prop:=∃ cs a,AcAt W X 0 98 cs a /\ AcIs Wn false α a
section
variable {w0 W W' : World} {L : Loc} {E H M X Z σ : Nat} {s : Mm} {q : Q} {wr : Bool} {c V r : Nat} {val : Nat -> Int} {yE : Y} {μ : Mv} {Wn : Wt} {α : Ac}
theorem AcO.grown (h : AcO W X Wn α) (g : Below W.heap.size W W') : AcO W' X Wn α:=by obtain ⟨cs,a,h1,h2⟩:=h;exact ⟨cs,a,h1.grown g,h2⟩
theorem AcO.only {S : Nat -> Prop} (h : AcO W X Wn α) (g : Only S W W') (hs : ¬ S X) : AcO W' X Wn α:=by obtain ⟨cs,a,h1,h2⟩:=h;exact ⟨cs,a,h1.only g hs,h2⟩
theorem ScM.acc (f : ScM w0 W L E H M Z s σ q wr c V val yE r μ) (A : ScMA w0 L E H M) (k : AcO W X Wn α) (AX : ScRA w0 L E H M X) (hσ : σ < 1000000) (hW : Wn.ok) (hn : Wn.nu = 65536) (ho : α.over? = false) (hg : α.good 4 8 4 20 Wn 0 1 q) {q' : Q} {α' : Ac} (ht : acTurn Wn false 0 1 σ q α = (q',α')) {V' r' : Nat} {val' : Nat -> Int} (mi : MI wr Z c V' val' yE r' q' μ) (d : Bool) (hd : α'.over? = d) :
 Calls Tryz.prog 25 #[.pointer (some ⟨X,0,none⟩),.agg #[.int .i64 4,.int .i64 8,.int .i64 4,.int .i64 20,.int .i64 100,.int .i64 600,.int .i64 3,.pointer (some ⟨L.p,0,none⟩),.int .i64 0]] W fun e w'=>e = .returned (.bool d) /\ ∃ s',ScM w0 w' L E H M Z s' (σ + 1) q' wr c V' val' yE r' μ /\ AcO w' X Wn α' /\ Only (L.and X) W w':=by
 obtain ⟨cs,a,ia,is⟩:=k
 have cm:=f.mi.com
 have hh : HandIs Wn.nu 0 1:=by rw [hn];exact hand01
 have k:=access_step f.sc.sp.mm AX.l f.sc.sp.tw good11 hσ cm.wd hh (by decide) hW α ia is hg ho 0 q' α' ht d hd
 refine k.mono ?_
 rintro e w' ⟨rfl,s',cs',a',D⟩
 obtain ⟨cm',am',mv,mis⟩:=f.mv
 refine ⟨rfl,s',⟨⟨⟨D.mm,D.tw,f.sc.sp.v.only D.only (fun h=>h.elim A.sa.fa.e (fun e=>AX.e e)),below_and f.sc.sp.b D.only A.sa.fa.l0 AX.z⟩,f.sc.hd.imp fun _ h=>h.only D.only (fun h=>h.elim A.sa.hl (fun e=>AX.h e))⟩,⟨cm',am',mv.only D.only (fun h=>h.elim A.ml (fun e=>AX.m e)),mis⟩,f.pg.up (by omega),mi⟩,⟨cs',a',D.ac,D.is⟩,D.only⟩
theorem AcO.done {Er x : Int} {st : Nat} (h : AcO W X Wn (.over Er x st)) :
 Calls Tryz.prog 26 #[.pointer (some ⟨X,0,none⟩)] W fun e w'=>e = .returned (.agg #[.int .i64 Er,.int .u64 0,.int .i64 x,.int .i64 st]) /\ Below W.heap.size W w':=by
 obtain ⟨cs,a,ia,is⟩:=h
 have k:=adone_any ia
 obtain ⟨e1,e2,e3,e4⟩ : a.E = Er /\ a.H = 0 /\ a.V = x /\ a.St = st:=is.sec
 rw [e1,e2,e3,e4] at k
 exact k
theorem newAcO (Wn : Wt) (hn : Wn.nu = 65536) (ho : Wn.ol = 0) (W : World) :
 Calls Tryz.prog 24 #[.agg #[.int .i64 Wn.kd,.int .u64 65536,.int .i64 Wn.ix,.int .i64 Wn.vl,.int .i64 0],.bool false] W fun e w'=>∃ X,e = .returned (.pointer (some ⟨X,0,none⟩)) /\ W.heap.size <= X /\ AcO w' X Wn .see /\ Below W.heap.size W w':=by
 have k:=newAcc_any Wn.kd Wn.nu Wn.ix Wn.vl Wn.ol false W
 rw [hn,ho] at k
 refine k.mono ?_
 rintro e w' ⟨W1,rfl,rfl,b⟩
 obtain ⟨cs,h⟩:=acc0_at Wn.kd 65536 Wn.ix Wn.vl 0 false W1
 refine ⟨W1.heap.size,rfl,b.size,⟨cs,_,h,?_⟩,grow_alloc b _⟩
 have e:=ac0_is Wn false
 rw [hn,ho] at e
 exact e
theorem ScM.apart (f : ScM w0 W L E H M Z s σ q wr c V val yE r μ) (hX : W.heap.size <= X) : ScRA w0 L E H M X :=
 ⟨fun hh=>by have:=f.sc.sp.mm.lt _ hh;omega,by have:=f.sc.sp.b.size;omega,by have:=f.sc.sp.ltE;omega,by have:=f.sc.ltH;omega,by have:=f.ltM;omega⟩
end
theorem tmod_nat (a Z : Nat) : ((a : Int)).tmod (Z : Int) = ((a % Z : Nat) : Int):=by
 rw [Int.tmod_eq_emod_of_nonneg (by omega)]
 omega
end Go.Proofs.YtkgpffcnimmdkaaGreat
