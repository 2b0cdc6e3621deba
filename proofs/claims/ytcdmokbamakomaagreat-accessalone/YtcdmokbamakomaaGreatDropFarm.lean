/- The statements' own helper: to let an object go alone. -/
import Derived.Test.YtcdmokbamakomaaGreatDropTown
namespace Go.Proofs.YtcdmokbamakomaaGreat
open Go.RowKit

section
variable {w : World} {L : Loc} {t n k m σ : Nat} {s : Mm} {q : Q} {nu : Int} {own : Bool}

end

end Go.Proofs.YtcdmokbamakomaaGreat

/- An object is let go by one who is alone: the steps, and what they come to; what stays true between calls. No program in it. -/
namespace Go.Proofs.YtcdmokbamakomaaGreat
open Go.RowKit

theorem packS_all (st A G V : Nat) (h1 : st ≤ 7) (h2 : A ≤ 1048575) (h3 : G ≤ 65535) (h4 : V ≤ 4194303) : packS st A G V = st + A * 8 + G * 8388608 + V * 549755813888 := by
  unfold packS
  rw [cut_id st 3 (by omega) (by simp; omega), cut_id A 20 (by omega) (by simp; omega), cut_id G 16 (by omega) (by simp; omega), cut_id V 22 (by omega) (by simp; omega)]

/-- what a slot's word holds that was packed -/
theorem packS_dec {st A G V : Nat} (h1 : st ≤ 7) (h2 : A ≤ 1048575) (h3 : G ≤ 65535) (h4 : V ≤ 4194303) : packS st A G V % 8 = st ∧ adOf (packS st A G V) = A ∧ genOf (packS st A G V) = G ∧ verOf' (packS st A G V) = V := by
  rw [packS_all st A G V h1 h2 h3 h4]
  unfold adOf genOf verOf'
  refine ⟨?_, ?_, ?_, ?_⟩ <;> omega

section
variable {t n k m : Nat} {cg : Int} {own : Bool} {x G : Nat}

end

end Go.Proofs.YtcdmokbamakomaaGreat

/- Objects that live, in an arena in which one is alone: one of them is let go, or it is told that it is not there. -/
namespace Go.Proofs.YtcdmokbamakomaaGreat
open Go.RowKit

theorem handIs {x G : Nat} (hx : x ≤ 65535) (g1 : 1 ≤ G) (g2 : G ≤ 65535) : HandIs (packH x G) x G := by
  rw [packH_is x G hx g2]
  refine ⟨?_, ?_, ?_, ?_⟩ <;> omega

theorem packOw_dec {Z x G : Nat} {own : Bool} (hZ : Z ≤ 65535) (hx : x ≤ 65535) (hG : G ≤ 65535) : szOf (packOw 2 Z x G own) = Z ∧ ownOf (packOw 2 Z x G own) = own := by
  have e := packOw_is 2 Z x G own (by decide) hZ hx hG
  rw [show ((2 : Nat) : Int) = 2 from rfl] at e
  rw [e]
  unfold szOf ownOf
  cases own
  · rw [if_neg (by decide)]
    exact ⟨by omega, decide_eq_false (by omega)⟩
  · rw [if_pos rfl]
    exact ⟨by omega, decide_eq_true (by omega)⟩

theorem Ox.apart_symm {o o' : Ox} (h : o.apart o') : o'.apart o :=
  ⟨fun e => h.1 e.symm, by rcases h.2 with e | e | e; exact Or.inl (fun k => e k.symm); exact Or.inr (Or.inr e); exact Or.inr (Or.inl e)⟩

section
variable {t n k m nx : Nat} {q : Q} {gen : Nat → Nat} {ls : List Ox} {cg : Int}

/-- what is known of an object that lives -/
structure OxIs (t n k m : Nat) (q : Q) (o : Ox) : Prop where
  obj : Obj9 t n k m (q.sw o.x) o.Z o.i
  st : q.sw o.x % 8 = 1
  ad : adOf (q.sw o.x) = o.a
  gn : genOf (q.sw o.x) = o.g
  vr : verOf' (q.sw o.x) = 0
  sz : szOf (q.dw (adOf (q.sw o.x))) = o.Z
  ow : ownOf (q.dw (adOf (q.sw o.x))) = o.own
  cl : ∀ j, j < o.Z → frozenIn (q.dw (adOf (q.sw o.x) + 1 + j)) (verOf' (q.sw o.x) + 1) = false
  rm : (classOf o.Z).toNat = o.κ

theorem Tame.is (C : Tame t n k m q nx gen ls) (hG : Good t n k m cg 600 3) (hn : n ≤ 65535) {o : Ox} (ho : o ∈ ls) : OxIs t n k m q o := by
  have K := C.ok o ho
  have A := C.li o ho
  have hmk : k * m ≤ 64 * 256 := Nat.mul_le_mul hG.k1 hG.n1
  have ht := hG.t1
  have hk := hG.k1
  have hin := base_in (t := t) (n := n) K.ik K.uk
  rw [← K.ae] at hin
  have hr := size_room K.z1 K.kz
  have hx1 := K.x1
  have dec := packS_dec (st := 1) (A := o.a) (G := o.g) (V := 0) (by decide) (by omega) K.g2 (by decide)
  have e : q.sw o.x = packS ((1 : Nat) : Int) o.a o.g ((0 : Nat) : Int) := A.sw
  rw [← e] at dec
  obtain ⟨d1, d2, d3, d4⟩ := dec
  have z2 := K.z2
  have g2 := K.g2
  obtain ⟨hs, hw2⟩ := packOw_dec (Z := o.Z) (x := o.x) (G := o.g) (own := o.own) (by omega) (by omega) g2
  rw [← show q.dw o.a = packOw 2 o.Z o.x o.g o.own from A.hw] at hs hw2
  refine ⟨⟨by rw [e]; exact packS_wd _ _ _ _, by rw [d1]; rfl, K.z1, K.z2, K.ik, o.u, ?_, by rw [d2]; exact K.ae⟩, d1, d2, d3, d4, by rw [d2]; exact hs, by rw [d2]; exact hw2, fun j hj => ?_, by rw [K.kz]; simp⟩
  · have := K.uk; omega
  · rw [d2, Nat.add_assoc, A.nt (1 + j) (by omega) (by omega)]
    rfl

end

section
variable {w0 w w' : World} {L : Loc} {bE t n k m σ nx : Nat} {cg : Int} {s : Mm} {q : Q} {gen : Nat → Nat} {own : Bool}

variable {ls : List Ox}

end

theorem Farm.first {w0 w1 : World} {L : Loc} {t n k m : Nat} {cg : Int} {s : Mm} {σ : Nat} (hG : Good t n k m cg 600 3) (mm : MemAt w1 L s) (tw : Town t n k m s σ (Q.new n)) (b : Below w0.heap.size w0 w1) (f : ∀ k, L.has k → w0.heap.size ≤ k) :
    Farm w0 (w1.alloc (.cells #[.int .i64 t, .int .i64 n, .int .i64 k, .int .i64 m, .int .i64 cg, .int .i64 600, .int .i64 3, .pointer (some ⟨L.p, 0, none⟩), .int .i64 0] 28)) L w1.heap.size t n k m cg s σ (Q.new n) 0 (fun _ => 1) [] ∧ FarmApart w0 L w1.heap.size t n k m cg :=
  ⟨⟨mm.alloc _, tw, tame0 t n k m, BoxV.new, grow_alloc b _⟩, ⟨f, fun hh => by have := mm.lt _ hh; omega, b.size, hG⟩⟩

end Go.Proofs.YtcdmokbamakomaaGreat
