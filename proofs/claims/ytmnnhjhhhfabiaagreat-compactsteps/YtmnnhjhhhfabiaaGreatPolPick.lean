import Derived.WalkKit
namespace Go.Proofs.YtmnnhjhhhfabiaaGreat
def Pick (n : Nat) (m : Nat -> Bool) (v : Nat -> Int) (r : Int) : Prop :=
 (r = -1 /\ ∀ i,i < n -> m i = false) \/ (∃ i : Nat,i < n /\ r = i /\ m i = true /\ (∀ j,j < i -> m j = true -> v i < v j) /\ (∀ j,j < n -> m j = true -> v i <= v j))
theorem Pick.none0 (m : Nat -> Bool) (v : Nat -> Int) : Pick 0 m v (-1):=Or.inl ⟨rfl,fun i hi=>by omega⟩
theorem Pick.more {n : Nat} {m : Nat -> Bool} {v : Nat -> Int} {r : Int} (h : Pick n m v r) : Pick (n + 1) m v (if m n = true /\ (r < 0 \/ v n < v r.toNat) then n else r):=by
 rcases h with ⟨rfl,h⟩ | ⟨i,hi,rfl,h1,h2,h3⟩
 · by_cases hn : m n = true
   · rw [if_pos ⟨hn,Or.inl (by omega)⟩]
     refine Or.inr ⟨n,by omega,rfl,hn,fun j hj hm=>?_,fun j hj hm=>?_⟩
     · rw [h j hj] at hm;cases hm
     · by_cases e : j = n
       · subst e;omega
       · rw [h j (by omega)] at hm;cases hm
   · rw [if_neg (fun k=>hn k.1)]
     refine Or.inl ⟨rfl,fun j hj=>?_⟩
     by_cases e : j = n
     · subst e;simpa using hn
     · exact h j (by omega)
 · by_cases hn : m n = true /\ v n < v i
   · rw [if_pos ⟨hn.1,Or.inr (by simpa using hn.2)⟩]
     refine Or.inr ⟨n,by omega,rfl,hn.1,fun j hj hm=>?_,fun j hj hm=>?_⟩
     · have:=h3 j hj hm;omega
     · by_cases e : j = n
       · subst e;omega
       · have:=h3 j (by omega) hm;omega
   · rw [if_neg (fun k=>hn ⟨k.1,by rcases k.2 with q | q;omega;simpa using q⟩)]
     refine Or.inr ⟨i,by omega,rfl,h1,h2,fun j hj hm=>?_⟩
     by_cases e : j = n
     · subst e
       have : ¬ v j < v i:=fun q=>hn ⟨hm,q⟩
       omega
     · exact h3 j (by omega) hm
theorem Pick.same {n : Nat} {m : Nat -> Bool} {v : Nat -> Int} {r r' : Int} (h : Pick n m v r) (h' : Pick n m v r') : r = r':=by
 rcases h with ⟨rfl,h⟩ | ⟨i,hi,rfl,h1,h2,h3⟩ <;> rcases h' with ⟨rfl,k⟩ | ⟨j,hj,rfl,k1,k2,k3⟩
 · rfl
 · rw [h j hj] at k1;cases k1
 · rw [k i hi] at h1;cases h1
 · by_cases e : i = j
   · rw [e]
   · have a:=h3 j hj k1
     have b:=k3 i hi h1
     by_cases l : i < j
     · have:=k2 i l h1;omega
     · have:=h2 j (by omega) k1;omega
theorem Pick.bd {n : Nat} {m : Nat -> Bool} {v : Nat -> Int} {r : Int} (h : Pick n m v r) : r = -1 \/ ∃ i : Nat,i < n /\ r = i /\ m i = true:=by
 rcases h with ⟨rfl,-⟩ | ⟨i,hi,rfl,h1,-⟩
 · exact Or.inl rfl
 · exact Or.inr ⟨i,hi,rfl,h1⟩
def VR (n i : Nat) (m : Nat -> Bool) (v : Nat -> Int) : Prop:=(∀ j,j < i -> m j = false) \/ (i < n /\ m i = true /\ ∀ j,j < i -> m j = true -> v i < v j)
theorem VR.zero (n : Nat) (m : Nat -> Bool) (v : Nat -> Int) : VR n 0 m v:=Or.inl fun j hj=>by omega
theorem VR.over {n i : Nat} {m : Nat -> Bool} {v : Nat -> Int} (h : VR n i m v) (hi : m i = false) : VR n (i + 1) m v:=by
 rcases h with h | ⟨-,h,-⟩
 · refine Or.inl fun j hj=>?_
   by_cases e : j = i
   · subst e;exact hi
   · exact h j (by omega)
 · rw [hi] at h;cases h
theorem VR.first {n i : Nat} {m : Nat -> Bool} {v : Nat -> Int} (h : VR n i m v) : ∀ j,j < i -> m j = true -> v i < v j:=by
 rcases h with h | ⟨-,-,h⟩
 · intro j hj q;rw [h j hj] at q;cases q
 · exact h
theorem VR.jump {n i k : Nat} {m : Nat -> Bool} {v : Nat -> Int} (h : VR n i m v) (hb : ∀ j,i < j -> j < k -> m j = true -> v i <= v j) (hkn : k < n) (hk : m k = true) (hl : v k < v i) : VR n k m v:=by
 refine Or.inr ⟨hkn,hk,fun j hj q=>?_⟩
 by_cases e : j < i
 · have:=h.first j e q;omega
 · by_cases e' : j = i
   · subst e';exact hl
   · have:=hb j (by omega) hj q;omega
theorem VR.done {n i : Nat} {m : Nat -> Bool} {v : Nat -> Int} (h : VR n i m v) (hi : i < n) (hm : m i = true) (hb : ∀ j,i < j -> j < n -> m j = true -> v i <= v j) : Pick n m v i:=by
 refine Or.inr ⟨i,hi,rfl,hm,h.first,fun j hj q=>?_⟩
 by_cases e : j < i
 · have:=h.first j e q;omega
 · by_cases e' : j = i
   · subst e';omega
   · exact hb j (by omega) hj q
theorem VR.out {n : Nat} {m : Nat -> Bool} {v : Nat -> Int} (h : VR n n m v) : Pick n m v (-1):=by
 rcases h with h | ⟨h,-⟩
 · exact Or.inl ⟨rfl,h⟩
 · omega
end Go.Proofs.YtmnnhjhhhfabiaaGreat
