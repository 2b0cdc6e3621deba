import Derived.Test.YtmnnhjhhhfabiaaGreatCompRanch
namespace Go.Proofs.YtmnnhjhhhfabiaaGreat
open Go.RowKit
theorem Land.words {t n k m : Nat} {s s' : Mm} {σ σ' : Nat} {z z' : Zt} (h : Land t n k m s σ z) (g : Land t n k m s' σ' z') (hq : z'.q = z.q) (hp : z'.pn = z.pn) (hs : z'.si = z.si) {a : Nat} (h0 : 1 <= a) : s'.wd a = s.wd a:=by
 by_cases h1 : a = 1
 · subst h1;rw [g.tw.pile.top,h.tw.pile.top,hq]
 by_cases h2 : a < 6
 · obtain ⟨c,rfl⟩ : ∃ c,a = 2 + c:=⟨a - 2,by omega⟩
   rw [g.tw.yard.opv c (by omega),h.tw.yard.opv c (by omega),hq]
 by_cases h3 : a < 6 + t
 · obtain ⟨j,rfl⟩ : ∃ j,a = 6 + j:=⟨a - 6,by omega⟩
   rw [g.pn j (by omega),h.pn j (by omega),hp]
 by_cases h4 : a < 6 + t + n * 2
 · obtain ⟨x,hx⟩ : ∃ x,a = 6 + t + x * 2 \/ a = 6 + t + x * 2 + 1:=⟨(a - (6 + t)) / 2,by omega⟩
   rcases hx with rfl | rfl
   · rw [g.tw.swv x (by omega),h.tw.swv x (by omega),hq]
   · rw [g.tw.pile.lkv x (by omega),h.tw.pile.lkv x (by omega),hq]
 by_cases h5 : a < 6 + t + n * 2 + k * 3
 · obtain ⟨i,hi⟩ : ∃ i,a = 6 + t + n * 2 + i * 3 \/ a = 6 + t + n * 2 + i * 3 + 1 \/ a = 6 + t + n * 2 + i * 3 + 2:=⟨(a - (6 + t + n * 2)) / 3,by omega⟩
   rcases hi with rfl | rfl | rfl
   · rw [g.tw.yard.ckv i (by omega),h.tw.yard.ckv i (by omega),hq]
   · rw [g.tw.lvw i (by omega),h.tw.lvw i (by omega),hq]
   · have e1:=g.si i (by omega)
     have e2:=h.si i (by omega)
     unfold ckAt at e1 e2
     rw [e1,e2,hs]
 · rw [g.tw.dwv a (by omega),h.tw.dwv a (by omega),hq]
end Go.Proofs.YtmnnhjhhhfabiaaGreat
