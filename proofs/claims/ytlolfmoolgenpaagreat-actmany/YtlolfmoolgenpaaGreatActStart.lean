import Derived.Test.YtlolfmoolgenpaaGreatActCrew
import Derived.Test.YtlolfmoolgenpaaGreatActPot
import Derived.Test.YtlolfmoolgenpaaGreatActAwake
import Derived.Deep.MidRow
namespace Go.Proofs.YtlolfmoolgenpaaGreat
open Go.RowKit
def xaM : Xa:=⟨1,1,0,0,0,0,false⟩
section
variable {w0 w w3 : World} {L : Loc} {E σ : Nat} {s : Mm} {q : Q}
theorem many_make (f : Hut w0 w L E 4 8 8 40 s σ (Q.new 8) 0 (fun _=>1) []) (a : FarmApart w0 L E 4 8 8 40 100) (hσ : σ <= 1000) :
 Calls Tryz.prog 12 #[.agg #[.int .i64 4,.int .i64 8,.int .i64 8,.int .i64 40,.int .i64 100,.int .i64 600,.int .i64 3,.pointer (some ⟨L.p,0,none⟩),.int .i64 0],.agg #[.int .i64 1,.int .i64 1,.int .u64 0,.int .i64 0,.int .i64 0,.int .i64 0,.bool false]] w fun e w'=>∃ (St : Int) (s' : Mm) (σ' i : Nat) (v : Int) (q' : Q),e = .returned (.agg #[.int .i64 0,.int .u64 65536,.int .i64 0,.int .i64 St]) /\ σ' <= 1500 /\ MemAt w' L s' /\ Vil 4 8 8 40 s' σ' q' (fun _=>0) /\ Cell1 4 8 8 40 0 1 i v q' 0 /\ Below w0.heap.size w0 w' /\ Only L.has w w':=by
 obtain ⟨E',H,V,q',nx',gen',ls',O,c⟩:=f.do a xaM (by decide) ⟨by decide,by decide⟩ ⟨by decide,by decide⟩ (fun _ h=>by cases h) (by omega)
 obtain ⟨o,rfl,rfl,rfl,rfl,rfl,hx,hg,hZ,ho,-,-,h0,-⟩:=aw_make (x:=0) (F:=[1,2,3,4,5,6,7]) O rfl (by decide) rfl (by decide)
 refine (c w f).mono ?_
 rintro e w' ⟨St,s',σ',rfl,h1,h2,h3,h4,h',o'⟩
 rw [show packH ((0 : Nat) : Int) (((fun _=>1) 0 : Nat) : Int) = 65536 from packH_01]
 have hm : o ∈ [o]:=by simp
 have S:=h'.tm.scn good8 (by decide) hm
 have I:=h'.tm.is good8 (by decide) hm
 have hZ1 : o.Z = 1:=by have : (1 : Int) = o.Z:=hZ;omega
 have hg1 : o.g = 1:=hg
 have ho1 : o.own = false:=ho
 have hc:=h0 1 (by decide) (by omega)
 rw [hx,hg1,hZ1,ho1] at S
 have ad : adOf (q'.sw 0) = o.a:=by have:=I.ad;rwa [hx] at this
 exact ⟨St,s',σ',o.i,q'.sw 0,q',rfl,by omega,h'.mm,h'.vl,⟨S,by rw [ad];exact hc,⟨Int.le_refl _,by decide⟩⟩,h'.b,o'⟩
theorem setCells_size {b : Nat} (news : List Value) : ∀ (w : World) (off : Nat),(w.setCells b off news).heap.size = w.heap.size:=by
 induction news with
 | nil=>intro w off;simp [World.setCells]
 | cons x t ih=>intro w off;have:=ih (w.setCell ⟨b,off,none⟩ x) (off + 1);rw [Go.Deep.nblk_setCell] at this;simpa [World.setCells] using this
def act0 : List Value:=[.int .i64 0,.int .i64 0,.int .u64 0,.int .i64 0,.int .i64 0,.int .i64 0,.bool false]
def whoO : Obj:=.cells #[.pointer none,.pointer none,.pointer none] 54
def xsO : Obj:=.cells #[.int .i64 0,.int .i64 0,.int .u64 0,.int .i64 0,.int .i64 0,.int .i64 0,.bool false,.int .i64 0,.int .i64 0,.int .u64 0,.int .i64 0,.int .i64 0,.int .i64 0,.bool false,.int .i64 0,.int .i64 0,.int .u64 0,.int .i64 0,.int .i64 0,.int .i64 0,.bool false] 55
def xsZ : Array Value:=#[.int .i64 0,.int .i64 0,.int .u64 0,.int .i64 0,.int .i64 0,.int .i64 0,.bool false,.int .i64 0,.int .i64 0,.int .u64 0,.int .i64 0,.int .i64 0,.int .i64 0,.bool false,.int .i64 0,.int .i64 0,.int .u64 0,.int .i64 0,.int .i64 0,.int .i64 0,.bool false]
def world5 (w : World) : World:=((w.alloc whoO).alloc xsO).setCells (w.heap.size + 1) 0 xsZ.toList
def world6 (w : World) : World:=((world5 w).alloc (.cells #[] 40)).alloc (.cells #[] 36)
theorem there_new (w : World) (c : Array Value) (T : TypeId) (n : Nat) (h : n = c.size) : (w.alloc (.cells c T)).there w.heap.size 0 n:=fun j hj=>by
 have k : (w.alloc (.cells c T)).heap[w.heap.size]? = some (.cells c T (0,0)):=Go.Deep.blk_alloc_new _ _
 refine ⟨?_,blk_frozen k _⟩
 rw [blk_cell k (Array.getElem?_eq_getElem (show 0 + j < c.size by omega))]
 rfl
theorem there5 (w : World) : ((w.alloc whoO).alloc xsO).there (w.heap.size + 1) 0 xsZ.size:=by
 have:=there_new (w.alloc whoO) xsZ 55 _ rfl
 rwa [Go.Deep.nblk_alloc] at this
theorem crew0 (mm : MemAt w3 L s) (vl : Vil 4 8 8 40 s σ q (fun _=>0)) (v : ∃ c,At w3 E 0 27 c (envC L 0)) (b : Below w0.heap.size w0 w3) (l0 : ∀ x,L.has x -> w0.heap.size <= x) (e : ¬ L.has E) (e0 : w0.heap.size <= E) :
 Crew w0 (world6 w3) L E w3.heap.size (w3.heap.size + 1) (w3.heap.size + 2) 0 (w3.heap.size + 3) 0 0 s σ q (fun _=>0) (fun _=>none) (fun _=>⟨0,0,0,0⟩) (fun _=>act0) []:=by
 have hE : E < w3.heap.size:=by obtain ⟨c,h⟩:=v;exact h.lt
 have hL:=fun x h=>mm.lt x h
 have n1 : (w3.alloc whoO).heap.size = w3.heap.size + 1:=Go.Deep.nblk_alloc _ _
 have n2' : ((w3.alloc whoO).alloc xsO).heap.size = w3.heap.size + 2:=by rw [Go.Deep.nblk_alloc,n1]
 have b2 : Below w3.heap.size w3 ((w3.alloc whoO).alloc xsO):=grow_alloc (grow1 _ _) _
 have o5 : Only (fun k=>k = w3.heap.size + 1) ((w3.alloc whoO).alloc xsO) (world5 w3):=setCells_only _ _ _ _ (Only.refl _ _)
 have x1 : ((w3.alloc whoO).alloc xsO).heap[w3.heap.size + 1]? = some xsO:=by rw [<- n1];exact Go.Deep.blk_alloc_new _ _
 obtain ⟨c5,y1,y2,-,y4⟩:=setCells_blk xsZ.toList ((w3.alloc whoO).alloc xsO) 0 xsZ x1
 have y1 : (world5 w3).heap[w3.heap.size + 1]? = some (.cells c5 55 (0,0)):=y1
 have b5 : Below w3.heap.size w3 (world5 w3):=below_only b2 o5 (fun k h=>by omega)
 have n2 : (world5 w3).heap.size = w3.heap.size + 2:=by rw [<- n2'];exact setCells_size _ _ _
 have n3 : ((world5 w3).alloc (.cells #[] 40)).heap.size = w3.heap.size + 3:=by rw [Go.Deep.nblk_alloc,n2]
 have hs : (world6 w3).heap.size = w3.heap.size + 4:=by unfold world6;rw [Go.Deep.nblk_alloc,n3]
 have g : Below w3.heap.size w3 (world6 w3):=grow_alloc (grow_alloc b5 _) _
 have k0 : (world6 w3).heap[w3.heap.size]? = some whoO:=by
  unfold world6
  rw [Go.Deep.blk_alloc_lt _ _ _ (by omega),Go.Deep.blk_alloc_lt _ _ _ (by omega),o5.block _ (by omega) (by omega),Go.Deep.blk_alloc_lt _ _ _ (by omega)]
  exact Go.Deep.blk_alloc_new _ _
 have k1 : (world6 w3).heap[w3.heap.size + 1]? = some (.cells c5 55 (0,0)):=by
  unfold world6
  rw [Go.Deep.blk_alloc_lt _ _ _ (by omega),Go.Deep.blk_alloc_lt _ _ _ (by omega)]
  exact y1
 have pt : ∀ i x,Pt L E w3.heap.size (w3.heap.size + 1) (w3.heap.size + 2) (w3.heap.size + 3) (fun _=>none) (fun _=>⟨0,0,0,0⟩) i x -> (i = 0 /\ L.has x) \/ (i = 1 /\ x = E) \/ (2 <= i /\ i <= 5 /\ x + 2 = w3.heap.size + i):=fun i x hp=>by
  match i,hp with
  | 0,hp=>exact Or.inl ⟨rfl,hp⟩
  | 1,hp=>exact Or.inr (Or.inl ⟨rfl,hp⟩)
  | 2,hp=>have hp : x = w3.heap.size:=hp;exact Or.inr (Or.inr ⟨by omega,by omega,by omega⟩)
  | 3,hp=>have hp : x = w3.heap.size + 1:=hp;exact Or.inr (Or.inr ⟨by omega,by omega,by omega⟩)
  | 4,hp=>have hp : x = w3.heap.size + 2:=hp;exact Or.inr (Or.inr ⟨by omega,by omega,by omega⟩)
  | 5,hp=>have hp : x = w3.heap.size + 3:=hp;exact Or.inr (Or.inr ⟨by omega,by omega,by omega⟩)
  | a + 6,hp=>exact absurd rfl hp.1
 refine ⟨mm.below g,vl,v.imp fun _ h=>h.grown g,grow b g,⟨_,k0,rfl,fun i hi=>?_⟩,⟨⟨_,k1,by rw [y2];rfl,fun a ha j u hu=>?_⟩,fun _ _=>rfl⟩,fun a t h=>(by cases h),fun a t h=>(by cases h),?_,?_,fun i x h=>?_,fun i j x h1 h2=>?_,fun i x h=>?_⟩
 · have : i = 0 \/ i = 1 \/ i = 2:=by omega
   rcases this with rfl | rfl | rfl <;> rfl
 · have hj : j < 7:=(List.getElem?_eq_some_iff.1 hu).1
   have hsz : xsZ.size = 21:=rfl
   refine (Nat.zero_add (a * 7 + j)) ▸ y4 (a * 7 + j) u ?_ (by omega)
   rw [<- hu]
   have ha' : a = 0 \/ a = 1 \/ a = 2:=by omega
   have hj' : j = 0 \/ j = 1 \/ j = 2 \/ j = 3 \/ j = 4 \/ j = 5 \/ j = 6:=by omega
   rcases ha' with rfl | rfl | rfl <;> rcases hj' with rfl | rfl | rfl | rfl | rfl | rfl | rfl <;> rfl
 · have:=Rz.fresh (world5 w3) 40 4
   rw [n2] at this
   exact this.grown (grow1 _ _)
 · have:=Rz.fresh ((world5 w3).alloc (.cells #[] 40)) 36 7
   rw [n3] at this
   exact this
 · rw [hs]
   rcases pt i x h with ⟨-,h⟩ | ⟨-,h⟩ | h
   · have:=hL x h;omega
   · omega
   · omega
 · rcases pt i x h1 with ⟨a,k⟩ | ⟨a,k⟩ | ⟨a,k⟩ <;> rcases pt j x h2 with ⟨b,k'⟩ | ⟨b,k'⟩ | ⟨b,k'⟩
   all_goals first
    | omega
    | (have:=hL x k;omega)
    | (have:=hL x k';omega)
    | (rw [k] at k';exact absurd k' e)
    | (rw [k'] at k;exact absurd k e)
 · have:=b.size
   rcases pt i x h with ⟨-,h⟩ | ⟨-,h⟩ | h
   · exact l0 x h
   · omega
   · omega
theorem hand8 : HandIs 65536 0 1:=by
 have hh:=handIs (x:=0) (G:=1) (by decide) (by decide) (by decide)
 rwa [packH_01] at hh
theorem ThAt.blt {t n k m : Nat} {w : World} {L : Loc} {B : Bk} {σ0 : Nat} {A : As} (h : ThAt t n k m w L B σ0 A) (hp : A.ph <= 2) : ∀ x,B.has x -> x < w.heap.size:=fun x hx=>by
 obtain ⟨c,ka⟩:=h.at_.a
 obtain ⟨c',kl⟩:=h.at_.l
 obtain ⟨c'',ki⟩:=h.pin hp
 rcases hx with rfl | rfl | rfl | rfl
 · exact ka.lt
 · exact kl.lt
 · exact ki.lt
 · exact h.dw.lt
theorem XRow.there {w : World} {Xb K : Nat} {xs : Nat -> List Value} (h : XRow w Xb xs) (hK : K < 3) : w.there Xb (K * 7) 7:=fun j hj=>by
 obtain ⟨u,hu⟩:=h.some hK hj
 exact ⟨by rw [hu];rfl,h.fz _⟩
theorem new8 {K2 y1 y2 : Nat} (h2 : K2 < 3) (h1 : y1 < 8) (h3 : y2 < 8) {w : World} {L : Loc} {s : Mm} (hM : MemAt w L s) (σ : Nat) (q : Q) (pn : Nat -> Int) :
 Calls Tryz.prog 14 #[.agg #[.int .i64 (3 + (K2 : Int)),.int .i64 0,.int .u64 65536,.int .i64 0,.int .i64 (1 + (y1 : Int)),.int .i64 (y2 : Int),.bool false]] w fun e w'=>∃ B : Bk,e = .returned (.tuple #[.pointer (some ⟨B.A,0,none⟩),.int .i64 0]) /\ Below w.heap.size w w' /\ (∀ x,B.has x -> w.heap.size <= x) /\ ThAt 4 8 8 40 w' L B σ (Th.as ⟨⟨3 + (K2 : Int) - 2,65536,0,1 + (y1 : Int),(y2 : Int)⟩,0,.see⟩ σ q pn) :=
 new_th hM (X:=⟨3 + (K2 : Int),0,65536,0,1 + (y1 : Int),(y2 : Int),false⟩) (by
  unfold Xa.may fitsV
  simp only [Bool.and_eq_true,decide_eq_true_eq]
  omega) (.ac (by show 3 <= 3 + (K2 : Int);omega) (by show 3 + (K2 : Int) <= 5;omega) ⟨by show -9223372036854775808 <= 1 + (y1 : Int);omega,by show 1 + (y1 : Int) <= 9223372036854775807;omega⟩ hand8 (by decide)) 4 8 40 σ q pn
theorem fit8 {K2 y1 y2 : Nat} (h2 : K2 < 3) (h1 : y1 < 8) (h3 : y2 < 8) : Wt.fit ⟨3 + (K2 : Int) - 2,65536,0,1 + (y1 : Int),(y2 : Int)⟩ :=
 ⟨rfl,rfl,by show 3 + (K2 : Int) - 2 = 1 \/ 3 + (K2 : Int) - 2 = 2 \/ 3 + (K2 : Int) - 2 = 3;omega,⟨by show 0 <= 1 + (y1 : Int);omega,by show 1 + (y1 : Int) <= 1099511627775;omega⟩,⟨by show (0 : Int) <= (y2 : Int);omega,by show (y2 : Int) <= 1099511627775;omega⟩⟩
theorem act8 (K2 y1 y2 : Nat) : ([.int .i64 (3 + (K2 : Int)),.int .i64 0,.int .u64 65536,.int .i64 0,.int .i64 (1 + (y1 : Int)),.int .i64 (y2 : Int),.bool false] : List Value) = actC ⟨3 + (K2 : Int) - 2,65536,0,1 + (y1 : Int),(y2 : Int)⟩:=by
 unfold actC
 rw [show (3 + (K2 : Int)) - 2 + 2 = 3 + (K2 : Int) by omega]
theorem pin8 {s : Mm} {σ : Nat} {q : Q} {pn : Nat -> Int} (V : Vil 4 8 8 40 s σ q pn) {a : Nat} (ha : a < 4) (hx : pn a = 0) {w : World} {L : Loc} (M : MemAt w L s) :
 Calls Tryz.prog 15 #[.pointer (some ⟨L.p,0,none⟩),.int .i64 (6 + (a : Int))] w fun e w'=>e = .returned (.int .u64 0) /\ w' = w:=by
 have:=peek_is M (6 + a) (by have:=V.tw.len;unfold arenaLen at this;omega) 0 (by rw [V.pn a ha];exact hx)
 rwa [show (((6 + a : Nat)) : Int) = 6 + (a : Int) by omega] at this
theorem pins8 {s : Mm} {σ : Nat} {q : Q} {pn : Nat -> Int} (V : Vil 4 8 8 40 s σ q pn) (h : ∀ a,a < 3 -> pn a = 0) {w : World} {L : Loc} (M : MemAt w L s) (x : Int) (h6 : 6 <= x) (h8 : x <= 8) :
 Calls Tryz.prog 15 #[.pointer (some ⟨L.p,0,none⟩),.int .i64 x] w fun e w'=>e = .returned (.int .u64 0) /\ w' = w:=by
 obtain ⟨a,rfl⟩ : ∃ a : Nat,x = 6 + (a : Int):=⟨(x - 6).toNat,by omega⟩
 exact pin8 V (by omega) (h a (by omega)) M
theorem Cw.first {i : Nat} {v : Int} (h : Cell1 4 8 8 40 0 1 i v q 0) (σ : Nat) : Cw i v q 0 σ (fun _=>0) (fun _=>none) [] [] :=
 ⟨h,fun a t h=>(by cases h),fun _ _=>rfl,⟨rfl,fun n e h=>by simp at h,List.Pairwise.nil,fun e h=>by cases h⟩,List.Perm.refl _⟩
end
end Go.Proofs.YtlolfmoolgenpaaGreat
