import Derived.Test.YtlolfmoolgenpaaGreatAllocGo
import Derived.Test.YtlolfmoolgenpaaGreatPhase
namespace Go.Proofs.YtlolfmoolgenpaaGreat
open Go.RowKit
structure Q where
 c : Nat
 lk : Nat -> Nat
 F : List Nat
 y : Y
 lv : Nat -> Nat
 sw : Nat -> Int
 dw : Nat -> Int
 db : Nat -> Nat:=fun _=>0
def owe (a d : Nat) : Int:=((a : Int) - (d : Int)) % 18446744073709551616
theorem owe_add (a d r : Nat) : sum64 (owe a d) (word64 (r : Int)) = owe (a + r) d:=by unfold sum64 word64 owe;omega
theorem owe_sub (a d r : Nat) (h : r <= a) : sum64 (owe a d) (word64 (-(r : Int))) = owe (a - r) d:=by unfold sum64 word64 owe;omega
structure Town (t n k m : Nat) (s : Mm) (σ : Nat) (q : Q) : Prop where
 pile : Pile t n s σ q.c q.lk q.F
 yard : Yard t n k m s σ q.y
 lvw : ∀ i,i < k -> s.wd (6 + t + n * 2 + i * 3 + 1) = owe (q.lv i) (q.db i)
 lvb : ∀ i,i < k -> q.lv i <= 17 * σ
 swv : ∀ x,x < n -> s.wd (6 + t + x * 2) = q.sw x
 swb : ∀ x,x < n -> 0 <= q.sw x /\ q.sw x <= 18446744073709551615
 dwv : ∀ a,6 + t + n * 2 + k * 3 <= a -> s.wd a = q.dw a
 ep : 0 <= s.wd 0 /\ s.wd 0 <= 18446744073709551615
inductive Al where
 | take (τ : Tk)
 | ask (x : Nat)
 | place (x g : Nat) (τ : Pl)
 | count (x g a i : Nat)
 | head (x g a i : Nat)
 | shw (x g a i : Nat)
 | ready (x g a i st : Nat)
 | give (x g : Nat) (γ : Gv)
 | over (E H : Int) (st : Nat)
def Al.over? : Al -> Bool
 | .over _ _ _=>true
 | _=>false
def genOf (v : Int) : Nat:=(v / 8388608 % 65536).toNat
def alTake (q : Q) (σ : Nat) : Nat × List Nat × Tk -> Q × Al
 | (c',F',.won x)=>({ q with c:=c',F:=F' },.ask x)
 | (c',F',.none)=>({ q with c:=c',F:=F' },.over 7 0 (σ + 1))
 | (c',F',τ')=>({ q with c:=c',F:=F' },.take τ')
def alPlace (q : Q) (x g : Nat) : Y × Pl -> Q × Al
 | (y',.won a i)=>({ q with y:=y' },.count x g a i)
 | (y',.none)=>({ q with y:=y' },.give x g .idle)
 | (y',τ')=>({ q with y:=y' },.place x g τ')
def alGive (q : Q) (σ x g : Nat) : Nat × (Nat -> Nat) × List Nat × Gv -> Q × Al
 | (c',lk',F',.over)=>({ q with c:=c',lk:=lk',F:=F' },.over 6 0 (σ + 1))
 | (c',lk',F',γ')=>({ q with c:=c',lk:=lk',F:=F' },.give x g γ')
def alTurn (t n k m κ : Nat) (z : Int) (own : Bool) (σ : Nat) (q : Q) : Al -> Q × Al
 | .take τ=>alTake q σ (tkTurn q.c q.lk q.F τ)
 | .ask x=>(q,.place x (genOf (q.sw x)) .see)
 | .place x g τ=>alPlace q x g (turn k m κ (base t n k m) q.y τ)
 | .count x g a i=>({ q with lv:=upd q.lv i (q.lv i + room κ) },.head x g a i)
 | .head x g a i=>({ q with dw:=upd q.dw a (packOw 1 z x g own) },.shw x g a i)
 | .shw x g a i=>({ q with sw:=upd q.sw x (packS 1 a g 0) },.ready x g a i (σ + 1))
 | .ready x g a _ st=>({ q with dw:=upd q.dw a (packOw 2 z x g own) },.over 0 (packH x g) st)
 | .give x g γ=>alGive q σ x g (gvTurn q.c q.lk q.F x γ)
 | .over E H st=>(q,.over E H st)
def Al.good (t n k m κ σ : Nat) (q : Q) : Al -> Prop
 | .take τ=>τ.good n q.c q.lk q.F /\ τ.over = false
 | .ask x=>x < n /\ x ∉ q.F
 | .place x g τ=>x < n /\ x ∉ q.F /\ g <= 65535 /\ τ.good k m κ σ /\ τ.over = false
 | .count x g a i=>x < n /\ x ∉ q.F /\ g <= 65535 /\ i < k /\ 6 + t + n * 2 + k * 3 <= a /\ a < 6 + t + n * 2 + k * 3 + k * m
 | .head x g a i=>x < n /\ x ∉ q.F /\ g <= 65535 /\ i < k /\ 6 + t + n * 2 + k * 3 <= a /\ a < 6 + t + n * 2 + k * 3 + k * m
 | .shw x g a i=>x < n /\ x ∉ q.F /\ g <= 65535 /\ i < k /\ 6 + t + n * 2 + k * 3 <= a /\ a < 6 + t + n * 2 + k * 3 + k * m
 | .ready x g a i _=>x < n /\ x ∉ q.F /\ g <= 65535 /\ i < k /\ 6 + t + n * 2 + k * 3 <= a /\ a < 6 + t + n * 2 + k * 3 + k * m
 | .give x _ γ=>x < n /\ x ∉ q.F /\ γ.good n q.c q.lk q.F x /\ γ.done = false
 | .over _ _ _=>True
def Al.at (t n κ : Nat) : Al -> Nat
 | .take τ=>τ.at t
 | .ask x=>6 + t + x * 2
 | .place _ _ τ=>τ.at t n κ
 | .count _ _ _ i=>6 + t + n * 2 + i * 3 + 1
 | .head _ _ a _=>a
 | .shw x _ _ _=>6 + t + x * 2
 | .ready _ _ a _ _=>a
 | .give x _ γ=>γ.at t x
 | .over _ _ _=>0
def Al.nx : Al -> Int
 | .take _=>0
 | .ask _=>1
 | .place _ _ _=>2
 | .count _ _ _ _=>3
 | .head _ _ _ _=>4
 | .shw _ _ _ _=>5
 | .ready _ _ _ _ _=>6
 | .give _ _ _=>7
 | .over _ _ _=>8
theorem Al.nx_over (α : Al) : (α.nx == 8) = α.over?:=by cases α <;> rfl
def Al.tkc : Al -> List Value -> Prop
 | .take τ,l=>τ.cells l
 | _,_=>True
def Al.plc (κ : Nat) : Al -> List Value -> Prop
 | .place _ _ τ,l=>τ.cells κ l
 | _,_=>True
def Al.gvc : Al -> List Value -> Prop
 | .give x _ γ,l=>γ.cells x l
 | _,_=>True
def Al.slc : Al -> Int -> Int -> Prop
 | .take _,_,_=>True
 | .ask x,s,_=>s = x
 | .place x g _,s,h=>s = x /\ h = g
 | .count x g _ _,s,h=>s = x /\ h = g
 | .head x g _ _,s,h=>s = x /\ h = g
 | .shw x g _ _,s,h=>s = x /\ h = g
 | .ready x g _ _ _,s,h=>s = x /\ h = g
 | .give x g _,s,h=>s = x /\ h = g
 | .over _ _ _,_,_=>True
def Al.spc : Al -> Int -> Int -> Prop
 | .count _ _ a i,s,c=>s = a /\ c = i
 | .head _ _ a i,s,c=>s = a /\ c = i
 | .shw _ _ a i,s,c=>s = a /\ c = i
 | .ready _ _ a i _,s,c=>s = a /\ c = i
 | _,_,_=>True
def Al.cmc : Al -> Int -> Int -> Int -> Int -> Prop
 | .over E H st,e,h,v,s=>e = E /\ h = H /\ v = 0 /\ s = st
 | .ready x g _ _ st,e,h,v,s=>e = 0 /\ h = packH x g /\ v = 0 /\ s = st
 | _,e,h,v,s=>e = 0 /\ h = 0 /\ v = 0 /\ s = 0
structure AlIs (z : Int) (own : Bool) (κ : Nat) (α : Al) (a : AV) : Prop where
 nx : a.nx = α.nx
 sz : a.sz = z
 ow : a.own = own
 tk : α.tkc a.tk
 pl : α.plc κ a.pl
 gv : α.gvc a.gv
 sl : α.slc a.sl a.gn
 sp : α.spc a.sa a.sc
 cm : α.cmc a.E a.H a.V a.St
theorem al0_is (z : Int) (own : Bool) (κ : Nat) : AlIs z own κ (.take .idle) (av0 z own):=⟨rfl,rfl,rfl,⟨0,0,0,rfl⟩,trivial,trivial,trivial,trivial,rfl,rfl,rfl,rfl⟩
theorem genOf_is (v : Int) : v / 8388608 % 65536 = (genOf v : Int):=by unfold genOf;omega
theorem genOf_le (v : Int) : genOf v <= 65535:=by unfold genOf;omega
theorem Pl.at_in {t n k m κ σ : Nat} {τ : Pl} (h : τ.good k m κ σ) : τ.at t n κ = 2 + κ \/ ∃ i,i < k /\ τ.at t n κ = 6 + t + n * 2 + i * 3:=by
 cases τ with
 | see=>exact Or.inl rfl
 | ask i=>exact Or.inr ⟨i,h,rfl⟩
 | grow i c=>exact Or.inr ⟨i,h.1,rfl⟩
 | look sn i=>exact Or.inr ⟨i,h.1,rfl⟩
 | take sn i c=>exact Or.inr ⟨i,h.1,rfl⟩
 | opn sn i c=>exact Or.inl rfl
 | fre sn i c=>exact Or.inr ⟨i,h.1,rfl⟩
 | won a i=>exact Or.inl rfl
 | none=>exact Or.inl rfl
theorem Tk.at_in {t n c : Nat} {lk : Nat -> Nat} {F : List Nat} {τ : Tk} (h : τ.good n c lk F) : τ.at t = 1 \/ ∃ x,x < n /\ τ.at t = 6 + t + x * 2 + 1:=by
 cases τ with
 | saw x c'=>exact Or.inr ⟨x,h.1,rfl⟩
 | _=>exact Or.inl rfl
theorem Gv.at_in {t n x : Nat} (hx : x < n) (γ : Gv) : γ.at t x = 1 \/ ∃ y,y < n /\ γ.at t x = 6 + t + y * 2 + 1:=by
 cases γ with
 | saw h c'=>exact Or.inr ⟨x,hx,rfl⟩
 | _=>exact Or.inl rfl
namespace Town
variable {t n k m : Nat} {s : Mm} {σ : Nat} {q : Q}
theorem len (h : Town t n k m s σ q) : s.n = 6 + t + n * 2 + k * 3 + k * m:=h.yard.len
theorem step_wd (who : Int) (a x : Nat) (v : Int) (h : x ≠ a) : ((s.by who).step a v).wd x = s.wd x:=upd_other s.wd a x v h
theorem step_at (who : Int) (a : Nat) (v : Int) : ((s.by who).step a v).wd a = v:=upd_same s.wd a v
theorem slots (h : Town t n k m s σ q) (hσ : σ < 1000000) (who : Int) (a : Nat) (v : Int) (ha : a = 1 \/ ∃ x,x < n /\ a = 6 + t + x * 2 + 1) {c' : Nat} {lk' : Nat -> Nat} {F' : List Nat} (hp : Pile t n ((s.by who).step a v) (σ + 1) c' lk' F') :
 Town t n k m ((s.by who).step a v) (σ + 1) { q with c:=c',lk:=lk',F:=F' }:=by
 have hne : ∀ b,b ≠ 1 -> (∀ x,x < n -> b ≠ 6 + t + x * 2 + 1) -> b ≠ a:=fun b h1 h2 e=>by
  rcases ha with ha | ⟨x,hx,ha⟩
  · omega
  · exact h2 x hx (by omega)
 refine ⟨hp,h.yard.off hσ who a v ?_ ?_,fun i hi=>?_,fun i hi=>?_,fun x hx=>?_,h.swb,fun b hb=>?_,?_⟩
 · rcases ha with ha | ⟨x,hx,ha⟩ <;> omega
 · intro i hi
   rcases ha with ha | ⟨x,hx,ha⟩ <;> omega
 · rw [step_wd who a _ v (hne _ (by omega) (fun x hx=>by omega))];exact h.lvw i hi
 · have:=h.lvb i hi;show q.lv i <= 17 * (σ + 1);omega
 · rw [step_wd who a _ v (hne _ (by omega) (fun y hy=>by omega))];exact h.swv x hx
 · rw [step_wd who a _ v (hne _ (by omega) (fun y hy=>by omega))];exact h.dwv b hb
 · rw [step_wd who a _ v (hne 0 (by omega) (fun y hy=>by omega))];exact h.ep
theorem chunks (h : Town t n k m s σ q) (hσ : σ < 1000000) (who : Int) {κ : Nat} (hκ : κ < 4) (a : Nat) (v : Int) (ha : a = 2 + κ \/ ∃ i,i < k /\ a = 6 + t + n * 2 + i * 3) {y' : Y} (hy : Yard t n k m ((s.by who).step a v) (σ + 1) y') :
 Town t n k m ((s.by who).step a v) (σ + 1) { q with y:=y' }:=by
 have hne : ∀ b,¬ (2 <= b /\ b < 6) -> (∀ i,i < k -> b ≠ 6 + t + n * 2 + i * 3) -> b ≠ a:=fun b h1 h2 e=>by
  rcases ha with ha | ⟨i,hi,ha⟩
  · omega
  · exact h2 i hi (by omega)
 refine ⟨h.pile.off hσ who a v ?_ ?_,hy,fun i hi=>?_,fun i hi=>?_,fun x hx=>?_,h.swb,fun b hb=>?_,?_⟩
 · rcases ha with ha | ⟨i,hi,ha⟩ <;> omega
 · intro i hi
   rcases ha with ha | ⟨j,hj,ha⟩ <;> omega
 · rw [step_wd who a _ v (hne _ (by omega) (fun x hx=>by omega))];exact h.lvw i hi
 · have:=h.lvb i hi;show q.lv i <= 17 * (σ + 1);omega
 · rw [step_wd who a _ v (hne _ (by omega) (fun y hy=>by omega))];exact h.swv x hx
 · rw [step_wd who a _ v (hne _ (by omega) (fun y hy=>by omega))];exact h.dwv b hb
 · rw [step_wd who a _ v (hne 0 (by omega) (fun y hy=>by omega))];exact h.ep
theorem same (h : Town t n k m s σ q) (hσ : σ < 1000000) (who : Int) (a : Nat) : Town t n k m ((s.by who).step a (s.wd a)) (σ + 1) q:=by
 have e : ((s.by who).step a (s.wd a)).wd = s.wd:=upd_id _ _
 refine ⟨h.pile.same hσ who a,h.yard.same hσ who a,fun i hi=>by rw [e];exact h.lvw i hi,fun i hi=>?_,fun x hx=>by rw [e];exact h.swv x hx,h.swb,fun b hb=>by rw [e];exact h.dwv b hb,by rw [e];exact h.ep⟩
 have:=h.lvb i hi;omega
theorem counts (h : Town t n k m s σ q) (hσ : σ < 1000000) (who : Int) {i r : Nat} (hi : i < k) (hr : r <= 17) :
 Town t n k m ((s.by who).step (6 + t + n * 2 + i * 3 + 1) (sum64 (s.wd (6 + t + n * 2 + i * 3 + 1)) (word64 r))) (σ + 1) { q with lv:=upd q.lv i (q.lv i + r) }:=by
 have hb:=h.lvb i hi
 have hv : sum64 (s.wd (6 + t + n * 2 + i * 3 + 1)) (word64 r) = owe (q.lv i + r) (q.db i):=by
  rw [h.lvw i hi];exact owe_add _ _ _
 refine ⟨h.pile.off hσ who _ _ (by omega) (fun x hx=>by omega),h.yard.off hσ who _ _ (by omega) (fun j hj=>by omega),fun j hj=>?_,fun j hj=>?_,fun x hx=>?_,h.swb,fun b hb=>?_,?_⟩
 · by_cases e : j = i
   · subst e
     rw [step_at,hv]
     show _ = owe (upd q.lv j (q.lv j + r) j) (q.db j)
     rw [upd_same]
   · rw [step_wd who _ _ _ (by omega)]
     show _ = owe (upd q.lv i (q.lv i + r) j) (q.db j)
     rw [upd_other _ _ _ _ e];exact h.lvw j hj
 · show upd q.lv i (q.lv i + r) j <= 17 * (σ + 1)
   by_cases e : j = i
   · subst e;rw [upd_same];omega
   · rw [upd_other _ _ _ _ e];have:=h.lvb j hj;omega
 · rw [step_wd who _ _ _ (by omega)];exact h.swv x hx
 · rw [step_wd who _ _ _ (by omega)];exact h.dwv b hb
 · rw [step_wd who _ _ _ (by omega)];exact h.ep
theorem lays (h : Town t n k m s σ q) (hσ : σ < 1000000) (who : Int) {a : Nat} (ha : 6 + t + n * 2 + k * 3 <= a) (v : Int) :
 Town t n k m ((s.by who).step a v) (σ + 1) { q with dw:=upd q.dw a v }:=by
 refine ⟨h.pile.off hσ who _ _ (by omega) (fun x hx=>by omega),h.yard.off hσ who _ _ (by omega) (fun j hj=>by omega),fun j hj=>?_,fun j hj=>?_,fun x hx=>?_,h.swb,fun b hb=>?_,?_⟩
 · rw [step_wd who _ _ _ (by omega)];exact h.lvw j hj
 · have:=h.lvb j hj;show q.lv j <= 17 * (σ + 1);omega
 · rw [step_wd who _ _ _ (by omega)];exact h.swv x hx
 · show _ = upd q.dw a v b
   by_cases e : b = a
   · subst e;rw [step_at,upd_same]
   · rw [step_wd who _ _ _ e,upd_other _ _ _ _ e];exact h.dwv b hb
 · rw [step_wd who _ _ _ (by omega)];exact h.ep
theorem shows (h : Town t n k m s σ q) (hσ : σ < 1000000) (who : Int) {x : Nat} (hx : x < n) (v : Int) (v0 : 0 <= v) (v1 : v <= 18446744073709551615) :
 Town t n k m ((s.by who).step (6 + t + x * 2) v) (σ + 1) { q with sw:=upd q.sw x v }:=by
 refine ⟨h.pile.off hσ who _ _ (by omega) (fun x hx=>by omega),h.yard.off hσ who _ _ (by omega) (fun j hj=>by omega),fun j hj=>?_,fun j hj=>?_,fun y hy=>?_,fun y hy=>?_,fun b hb=>?_,?_⟩
 · rw [step_wd who _ _ _ (by omega)];exact h.lvw j hj
 · have:=h.lvb j hj;show q.lv j <= 17 * (σ + 1);omega
 · show _ = upd q.sw x v y
   by_cases e : y = x
   · subst e;rw [step_at,upd_same]
   · rw [step_wd who _ _ _ (by omega),upd_other _ _ _ _ e];exact h.swv y hy
 · show 0 <= upd q.sw x v y /\ upd q.sw x v y <= _
   by_cases e : y = x
   · subst e;rw [upd_same];exact ⟨v0,v1⟩
   · rw [upd_other _ _ _ _ e];exact h.swb y hy
 · rw [step_wd who _ _ _ (by omega)];exact h.dwv b hb
 · rw [step_wd who _ _ _ (by omega)];exact h.ep
end Town
def Q.new (n : Nat) : Q:=⟨0,link0 n,upFrom n n,Y.new,fun _=>0,fun _=>8388608,fun _=>0,fun _=>0⟩
theorem town0 {t n k m : Nat} {g p r : Int} (hG : Good t n k m g p r) (hn : n <= 65535) : Town t n k m (Mm.laid t n (arenaLen t n k m) n) (1 + 2 * n) (Q.new n):=by
 have hs:=hG.s0
 have hs1:=hG.s1
 refine ⟨pile0 t n _ hs hn (by unfold arenaLen;omega),yard0 t n k m hs1,fun i hi=>?_,fun i hi=>Nat.zero_le _,fun x hx=>laid_slot _ _ _ _ _ hx,fun x hx=>⟨by simp [Q.new],by simp [Q.new]⟩,fun a ha=>?_,?_⟩
 · rw [laid_else _ _ _ _ _ (by omega) (Or.inr (by omega))];rfl
 · rw [laid_else _ _ _ _ _ (by omega) (Or.inr (by omega))];rfl
 · rw [laid_else _ _ _ _ _ (by omega) (Or.inl (by omega))];exact ⟨by decide,by decide⟩
theorem turn_won {k m κ σ : Nat} {bs : Nat -> Nat} {y y' : Y} {τ : Pl} {a i : Nat} (hg : τ.good k m κ σ) (ho : τ.over = false) (ht : turn k m κ bs y τ = (y',.won a i)) : ∃ c : Ck,τ = .grow i c /\ i < k /\ y.ck i = c /\ a = bs i + c.us /\ c.us + room κ <= m /\ c.st = 1 /\ c.cl = κ /\ y' = ⟨upd y.ck i ⟨c.st,c.cl,c.us + room κ,c.sp⟩,y.op⟩:=by
 cases τ with
 | see =>
  simp only [turn,adv] at ht
  split at ht
  · split at ht <;> cases ht
  · cases ht
 | ask j =>
  simp only [turn,adv] at ht
  split at ht
  · cases ht
  · split at ht <;> cases ht
 | grow j c =>
  obtain ⟨hik,hc,h1,h2,h3⟩:=hg
  simp only [turn] at ht
  split at ht
  · rename_i e
    obtain ⟨rfl,rfl,rfl⟩ : _ = y' /\ bs j + c.us = a /\ j = i:=by simpa using ht
    exact ⟨c,rfl,hik,e,rfl,h3,h1,h2,rfl⟩
  · cases ht
 | look sn j =>
  simp only [turn,adv] at ht
  split at ht
  · cases ht
  · split at ht <;> cases ht
 | take sn j c =>
  simp only [turn,adv] at ht
  split at ht
  · cases ht
  · split at ht <;> cases ht
 | opn sn j c =>
  simp only [turn] at ht
  split at ht <;> cases ht
 | fre sn j c =>
  simp only [turn] at ht
  split at ht <;> cases ht
 | won a j=>cases ho
 | none=>cases ho
theorem base_in {t n k m i u r : Nat} (hi : i < k) (hu : u + r <= m) : 6 + t + n * 2 + k * 3 <= base t n k m i + u /\ base t n k m i + u + r <= 6 + t + n * 2 + k * 3 + k * m:=by
 unfold base
 have : i * m + m <= k * m:=by
  have:=Nat.mul_le_mul_right m (Nat.succ_le_of_lt hi)
  rw [Nat.succ_mul] at this
  exact this
 omega
end Go.Proofs.YtlolfmoolgenpaaGreat

namespace Go.Proofs.YtlolfmoolgenpaaGreat
open Go.RowKit
structure Did (w : World) (L : Loc) (s : Mm) (b o : Nat) (T : TypeId) (cs : Array Value) (t n k m σ κ : Nat) (z : Int) (own : Bool) (who : Int) (α : Al) (q' : Q) (α' : Al) (w' : World) (s' : Mm) (cs' : Array Value) (a' : AV) : Prop where
 mm : MemAt w' L s'
 tw : Town t n k m s' (σ + 1) q'
 al : AlAt w' b o T cs' a'
 is : AlIs z own κ α' a'
 good : α'.good t n k m κ (σ + 1) q'
 same : Same o 26 cs cs'
 only : Only (L.and b) w w'
 st : ∃ v,s' = (s.by who).step (α.at t n κ) v
theorem tk_fate (τ : Tk) : (τ.over = false) \/ (∃ x,τ = .won x) \/ τ = .none:=by
 cases τ with
 | won x=>exact Or.inr (Or.inl ⟨x,rfl⟩)
 | none=>exact Or.inr (Or.inr rfl)
 | _=>exact Or.inl rfl
theorem pl_fate (τ : Pl) : (τ.over = false) \/ (∃ a i,τ = .won a i) \/ τ = .none:=by
 cases τ with
 | won a i=>exact Or.inr (Or.inl ⟨a,i,rfl⟩)
 | none=>exact Or.inr (Or.inr rfl)
 | _=>exact Or.inl rfl
theorem alTake_on {q : Q} {σ c' : Nat} {F' : List Nat} {τ' : Tk} (h : τ'.over = false) : alTake q σ (c',F',τ') = ({ q with c:=c',F:=F' },.take τ'):=by
 cases τ' with
 | won=>cases h
 | none=>cases h
 | _=>rfl
theorem alPlace_on {q : Q} {x g : Nat} {y' : Y} {τ' : Pl} (h : τ'.over = false) : alPlace q x g (y',τ') = ({ q with y:=y' },.place x g τ'):=by
 cases τ' with
 | won=>cases h
 | none=>cases h
 | _=>rfl
theorem alGive_on {q : Q} {σ x g c' : Nat} {lk' : Nat -> Nat} {F' : List Nat} {γ' : Gv} (h : γ'.done = false) : alGive q σ x g (c',lk',F',γ') = ({ q with c:=c',lk:=lk',F:=F' },.give x g γ'):=by
 cases γ' with
 | over=>cases h
 | _=>rfl
theorem Gv.is_over {γ : Gv} (h : γ.done = true) : γ = .over:=by
 cases γ with
 | over=>rfl
 | _=>cases h
section
variable {w : World} {L : Loc} {s : Mm} {b o : Nat} {T : TypeId} {cs : Array Value} {a : AV} {t n k m σ κ : Nat} {g p r : Int} {z : Int} {own : Bool} {q : Q}
set_option maxHeartbeats 400000 in
theorem alloc_step (h : MemAt w L s) (hb : ¬ L.has b) (hT : Town t n k m s σ q) (hG : Good t n k m g p r) (hσ : σ < 1000000) (fz : Fit z) (hz : classOf z = κ) (hκ : κ < 4) (α : Al) (hi : AlAt w b o T cs a) (his : AlIs z own κ α a) (hg : α.good t n k m κ σ q) (ho : α.over? = false) (who : Int) (q' : Q) (α' : Al) (hq : alTurn t n k m κ z own σ q α = (q',α')) (d : Bool) (hd : α'.over? = d) :
 Calls Tryz.prog 70 #[.pointer (some ⟨b,o,none⟩),.agg #[.int .i64 t,.int .i64 n,.int .i64 k,.int .i64 m,.int .i64 g,.int .i64 p,.int .i64 r,.pointer (some ⟨L.p,0,none⟩),.int .i64 who]] w fun e w'=>e = .returned (.bool d) /\ ∃ s' cs' a',Did w L s b o T cs t n k m σ κ z own who α q' α' w' s' cs' a':=by
 have hG':=hG
 obtain ⟨t0,t1,n0,n1,k0,k1,m0,m1,g0,g1,p0,p1,r0,r1⟩:=hG
 have hmk : k * m <= 64 * 256:=Nat.mul_le_mul k1 m1
 have har:=hG'.arena
 have hlen:=hT.len
 have hbig:=hT.pile.big
 have hst : wrap64 (s.steps + 1) = ((σ + 1 : Nat) : Int):=by rw [hT.pile.st];exact hT.pile.wrapS hσ
 obtain ⟨inx,isz,iow,itk,ipl,igv,isl,isp,icm⟩:=his
 have hK : classOf a.sz = κ:=by rw [isz];exact hz
 have hdn:=Al.nx_over α'
 rw [hd] at hdn
 cases α with
 | over E H st=>cases ho
 | take τ =>
  obtain ⟨gt,go⟩:=hg
  obtain ⟨c',F',τ',ht⟩ : ∃ c' F' τ',tkTurn q.c q.lk q.F τ = (c',F',τ'):=⟨_,_,_,rfl⟩
  have hat:=Tk.at_in (t:=t) gt
  simp only [alTurn,ht] at hq
  rcases tk_fate τ' with hf | ⟨x,hf⟩ | hf
  · rw [alTake_on hf] at hq
    obtain ⟨rfl,rfl⟩:=Prod.mk.inj hq
    refine (astep_take h hi who inx _ d ?_ (fun w1 m1 i1=>atake_on m1 hb i1 who hT.pile hσ t1 κ hK τ itk gt go c' F' τ' ht hf)).mono ?_
    · rintro s' a' ⟨_,_,_,l,_,rfl⟩
      rw [<- hdn]
      show (a.nx == 8) = _
      rw [inx];rfl
    · rintro e w' ⟨rfl,s',cs',a',m',o',i',sm,p',⟨v,rfl⟩,g',l,hl,rfl⟩
      exact ⟨rfl,_,cs',_,m',hT.slots hσ who _ v hat p',i',⟨inx,isz,iow,hl,ipl,igv,isl,isp,icm⟩,⟨g',hf⟩,sm,o',v,rfl⟩
  · subst hf
    have hq' : ({ q with c:=c',F:=F' },Al.ask x) = (q',α'):=hq
    obtain ⟨rfl,rfl⟩:=Prod.mk.inj hq'
    have hxF : x ∉ F':=by
     cases τ with
     | idle =>
      simp only [tkTurn] at ht
      split at ht <;> cases ht
     | saw=>cases ht
     | lnk y c0 q0 =>
      simp only [tkTurn] at ht
      split at ht
      · rename_i e
        obtain ⟨_,rfl,hyx⟩ : _ /\ q.F.tail = F' /\ Tk.won y = Tk.won x:=by simpa using ht
        cases hyx
        have hh:=(gt.2.2.2 e).1
        have nd:=hT.pile.nd
        intro hm
        cases hF : q.F with
        | nil=>rw [hF] at hh;simp [Go.Proofs.YtlolfmoolgenpaaGreat.hd] at hh
        | cons u F2 =>
         rw [hF] at hh hm nd
         have : u = x:=by simpa [Go.Proofs.YtlolfmoolgenpaaGreat.hd] using hh
         subst this
         exact (List.nodup_cons.1 nd).1 hm
      · cases ht
     | won=>cases go
     | none=>cases go
    refine (astep_take h hi who inx _ d ?_ (fun w1 m1 i1=>atake_won m1 hb i1 who hT.pile hσ t1 κ hK τ itk gt go c' F' _ ht x rfl)).mono ?_
    · rintro s' a' ⟨_,_,_,l,_,rfl⟩
      rw [<- hdn];rfl
    · rintro e w' ⟨rfl,s',cs',a',m',o',i',sm,p',⟨v,rfl⟩,hx,l,hl,rfl⟩
      exact ⟨rfl,_,cs',_,m',hT.slots hσ who _ v hat p',i',⟨rfl,isz,iow,trivial,trivial,trivial,rfl,trivial,icm⟩,⟨hx,hxF⟩,sm,o',v,rfl⟩
  · subst hf
    have hq' : ({ q with c:=c',F:=F' },Al.over 7 0 (σ + 1)) = (q',α'):=hq
    obtain ⟨rfl,rfl⟩:=Prod.mk.inj hq'
    refine (astep_take h hi who inx _ d ?_ (fun w1 m1 i1=>atake_none m1 hb i1 who hT.pile hσ t1 κ hK τ itk gt go c' F' _ ht rfl)).mono ?_
    · rintro s' a' ⟨_,_,l,_,rfl⟩
      rw [<- hdn];rfl
    · rintro e w' ⟨rfl,s',cs',a',m',o',i',sm,p',⟨v,rfl⟩,l,hl,rfl⟩
      exact ⟨rfl,_,cs',_,m',hT.slots hσ who _ v hat p',i',⟨rfl,isz,iow,trivial,trivial,trivial,trivial,trivial,rfl,rfl,rfl,rfl⟩,trivial,sm,o',v,rfl⟩
 | ask x =>
  obtain ⟨hx,hxF⟩:=hg
  have hq' : (q,Al.place x (genOf (q.sw x)) .see) = (q',α'):=hq
  obtain ⟨rfl,rfl⟩:=Prod.mk.inj hq'
  obtain ⟨v0,v1⟩:=hT.swb x hx
  refine (astep_ask h hi who inx _ d ?_ (fun w1 m1 i1=>aask m1 hb i1 who har x isl (by omega) (by omega) (q.sw x) (hT.swv x hx) v0 v1 (genOf (q.sw x)) (genOf_is _) κ hK)).mono ?_
  · rintro s' a' ⟨_,rfl⟩
    rw [<- hdn];rfl
  · rintro e w' ⟨rfl,s',cs',a',m',o',i',sm,rfl,rfl⟩
    exact ⟨rfl,_,cs',_,m',hT.same hσ who _,i',⟨rfl,isz,iow,trivial,⟨_,_,_,_,_,rfl⟩,trivial,⟨isl,rfl⟩,trivial,icm⟩,⟨hx,hxF,genOf_le _,trivial,rfl⟩,sm,o',_,rfl⟩
 | place x G τ =>
  obtain ⟨hx,hxF,hGb,gt,go⟩:=hg
  obtain ⟨y',τ',ht⟩ : ∃ y' τ',turn k m κ (base t n k m) q.y τ = (y',τ'):=⟨_,_,rfl⟩
  have hat:=Pl.at_in (t:=t) (n:=n) gt
  simp only [alTurn,ht] at hq
  rcases pl_fate τ' with hf | ⟨A,i,hf⟩ | hf
  · rw [alPlace_on hf] at hq
    obtain ⟨rfl,rfl⟩:=Prod.mk.inj hq
    refine (astep_words h hi who inx _ d ?_ (fun w1 m1 i1=>awords_on m1 hb i1 who hT.yard hG' hσ hκ τ ipl gt go y' τ' ht hf)).mono ?_
    · rintro s' a' ⟨_,_,_,l,_,rfl⟩
      rw [<- hdn]
      show (a.nx == 8) = _
      rw [inx];rfl
    · rintro e w' ⟨rfl,s',cs',a',m',o',i',sm,p',⟨v,rfl⟩,g',l,hl,rfl⟩
      exact ⟨rfl,_,cs',_,m',hT.chunks hσ who hκ _ v hat p',i',⟨inx,isz,iow,trivial,hl,trivial,isl,trivial,icm⟩,⟨hx,hxF,hGb,g',hf⟩,sm,o',v,rfl⟩
  · subst hf
    have hq' : ({ q with y:=y' },Al.count x G A i) = (q',α'):=hq
    obtain ⟨rfl,rfl⟩:=Prod.mk.inj hq'
    obtain ⟨c,-,hik,-,rfl,hu,-⟩:=turn_won gt go ht
    have hin:=base_in (t:=t) (n:=n) hik hu
    have hr:=room_bd κ
    refine (astep_words h hi who inx _ d ?_ (fun w1 m1 i1=>awords_won m1 hb i1 who hT.yard hG' hσ hκ τ ipl gt go y' _ ht _ i rfl)).mono ?_
    · rintro s' a' ⟨_,_,l,_,rfl⟩
      rw [<- hdn];rfl
    · rintro e w' ⟨rfl,s',cs',a',m',o',i',sm,p',⟨v,rfl⟩,l,hl,rfl⟩
      exact ⟨rfl,_,cs',_,m',hT.chunks hσ who hκ _ v hat p',i',⟨rfl,isz,iow,trivial,trivial,trivial,isl,⟨rfl,rfl⟩,icm⟩,⟨hx,hxF,hGb,hik,hin.1,by omega⟩,sm,o',v,rfl⟩
  · subst hf
    have hq' : ({ q with y:=y' },Al.give x G .idle) = (q',α'):=hq
    obtain ⟨rfl,rfl⟩:=Prod.mk.inj hq'
    refine (astep_words h hi who inx _ d ?_ (fun w1 m1 i1=>awords_none m1 hb i1 who hT.yard hG' hσ hκ τ ipl gt go y' _ ht x isl.1 rfl)).mono ?_
    · rintro s' a' ⟨_,_,l,_,rfl⟩
      rw [<- hdn];rfl
    · rintro e w' ⟨rfl,s',cs',a',m',o',i',sm,p',⟨v,rfl⟩,l,hl,rfl⟩
      exact ⟨rfl,_,cs',_,m',hT.chunks hσ who hκ _ v hat p',i',⟨rfl,isz,iow,trivial,trivial,⟨_,rfl⟩,isl,trivial,icm⟩,⟨hx,hxF,trivial,rfl⟩,sm,o',v,rfl⟩
 | count x G A i =>
  obtain ⟨hx,hxF,hGb,hik,ha0,ha1⟩:=hg
  have hq' : ({ q with lv:=upd q.lv i (q.lv i + room κ) },Al.head x G A i) = (q',α'):=hq
  obtain ⟨rfl,rfl⟩:=Prod.mk.inj hq'
  refine (astep_count h hi who inx _ d ?_ (fun w1 m1 i1=>acount m1 hb i1 who har n1 t1 i isp.2 (by omega) (by omega) κ hκ hK)).mono ?_
  · rintro s' a' ⟨_,rfl⟩
    rw [<- hdn];rfl
  · rintro e w' ⟨rfl,s',cs',a',m',o',i',sm,rfl,rfl⟩
    exact ⟨rfl,_,cs',_,m',hT.counts hσ who hik (room_bd κ).2,i',⟨rfl,isz,iow,trivial,trivial,trivial,isl,isp,icm⟩,⟨hx,hxF,hGb,hik,ha0,ha1⟩,sm,o',_,rfl⟩
 | head x G A i =>
  obtain ⟨hx,hxF,hGb,hik,ha0,ha1⟩:=hg
  have hq' : ({ q with dw:=upd q.dw A (packOw 1 z x G own) },Al.shw x G A i) = (q',α'):=hq
  obtain ⟨rfl,rfl⟩:=Prod.mk.inj hq'
  refine (astep_head h hb hi who inx z fz isz x G A isl.1 isl.2 isp.1 own iow (by omega) (by omega) (by omega)).mono ?_
  rintro e w' ⟨rfl,s',cs',a',m',o',i',sm,rfl,rfl⟩
  exact ⟨by rw [<- hd];rfl,_,cs',_,m',hT.lays hσ who ha0 _,i',⟨rfl,isz,iow,trivial,trivial,trivial,isl,isp,icm⟩,⟨hx,hxF,hGb,hik,ha0,ha1⟩,sm,o',_,rfl⟩
 | shw x G A i =>
  obtain ⟨hx,hxF,hGb,hik,ha0,ha1⟩:=hg
  have hq' : ({ q with sw:=upd q.sw x (packS 1 A G 0) },Al.ready x G A i (σ + 1)) = (q',α'):=hq
  obtain ⟨rfl,rfl⟩:=Prod.mk.inj hq'
  have hbd:=packS_bd 1 A G 0
  refine (astep_show h hi who inx _ d ?_ (fun w1 m1 i1=>ashow m1 hb i1 who har x G A isl.1 isl.2 isp.1 (by omega) (by omega) (by omega) (by omega) (σ + 1) hst)).mono ?_
  · rintro s' a' ⟨_,rfl⟩
    rw [<- hdn];rfl
  · rintro e w' ⟨rfl,s',cs',a',m',o',i',sm,rfl,rfl⟩
    exact ⟨rfl,_,cs',_,m',hT.shows hσ who hx _ hbd.1 (Int.le_trans hbd.2 (by decide)),i',⟨rfl,isz,iow,trivial,trivial,trivial,isl,isp,⟨icm.1,rfl,icm.2.2.1,rfl⟩⟩,⟨hx,hxF,hGb,hik,ha0,ha1⟩,sm,o',_,rfl⟩
 | ready x G A i st =>
  obtain ⟨hx,hxF,hGb,hik,ha0,ha1⟩:=hg
  have hq' : ({ q with dw:=upd q.dw A (packOw 2 z x G own) },Al.over 0 (packH x G) st) = (q',α'):=hq
  obtain ⟨rfl,rfl⟩:=Prod.mk.inj hq'
  refine (astep_ready h hb hi who inx z fz isz x G A isl.1 isl.2 isp.1 own iow (by omega) (by omega) (by omega)).mono ?_
  rintro e w' ⟨rfl,s',cs',a',m',o',i',sm,rfl,rfl⟩
  exact ⟨by rw [<- hd];rfl,_,cs',_,m',hT.lays hσ who ha0 _,i',⟨rfl,isz,iow,trivial,trivial,trivial,trivial,trivial,icm⟩,trivial,sm,o',_,rfl⟩
 | give x G γ =>
  obtain ⟨hx,hxF,gt,go⟩:=hg
  obtain ⟨c',lk',F',γ',ht⟩ : ∃ c' lk' F' γ',gvTurn q.c q.lk q.F x γ = (c',lk',F',γ'):=⟨_,_,_,_,rfl⟩
  have hat:=Gv.at_in (t:=t) hx γ
  simp only [alTurn,ht] at hq
  cases hf : γ'.done with
  | false =>
   rw [alGive_on hf] at hq
   obtain ⟨rfl,rfl⟩:=Prod.mk.inj hq
   have hFF : F' = q.F:=by
    cases γ with
    | idle =>
     obtain ⟨_,_,rfl,_⟩ : q.c = c' /\ q.lk = lk' /\ q.F = F' /\ _ = γ':=by simpa [gvTurn] using ht
     rfl
    | saw hh cc =>
     obtain ⟨_,_,rfl,_⟩ : q.c = c' /\ _ = lk' /\ q.F = F' /\ _ = γ':=by simpa [gvTurn] using ht
     rfl
    | lnk hh cc =>
     simp only [gvTurn] at ht
     split at ht
     · obtain ⟨_,_,_,rfl⟩ : _ /\ _ /\ _ /\ Gv.over = γ':=by simpa using ht
       cases hf
     · obtain ⟨_,_,rfl,_⟩ : q.c = c' /\ q.lk = lk' /\ q.F = F' /\ _ = γ':=by simpa using ht
       rfl
    | over=>cases go
   refine (astep_give h hi who inx _ d ?_ (fun w1 m1 i1=>agive_on m1 hb i1 who hT.pile hσ t1 hx hxF γ igv gt go c' lk' F' γ' ht hf)).mono ?_
   · rintro s' a' ⟨_,_,_,l,_,rfl⟩
     rw [<- hdn]
     show (a.nx == 8) = _
     rw [inx];rfl
   · rintro e w' ⟨rfl,s',cs',a',m',o',i',sm,p',⟨v,rfl⟩,g',l,hl,rfl⟩
     exact ⟨rfl,_,cs',_,m',hT.slots hσ who _ v hat p',i',⟨inx,isz,iow,trivial,trivial,hl,isl,trivial,icm⟩,⟨hx,(by rw [<- hFF] at hxF;exact hxF),g',hf⟩,sm,o',v,rfl⟩
  | true =>
   have:=Gv.is_over hf
   subst this
   have hq' : ({ q with c:=c',lk:=lk',F:=F' },Al.over 6 0 (σ + 1)) = (q',α'):=hq
   obtain ⟨rfl,rfl⟩:=Prod.mk.inj hq'
   refine (astep_give h hi who inx _ d ?_ (fun w1 m1 i1=>agive_over m1 hb i1 who hT.pile hσ t1 hx hxF γ igv gt go c' lk' F' _ ht rfl)).mono ?_
   · rintro s' a' ⟨_,_,l,_,rfl⟩
     rw [<- hdn];rfl
   · rintro e w' ⟨rfl,s',cs',a',m',o',i',sm,p',⟨v,rfl⟩,l,hl,rfl⟩
     exact ⟨rfl,_,cs',_,m',hT.slots hσ who _ v hat p',i',⟨rfl,isz,iow,trivial,trivial,trivial,trivial,trivial,rfl,rfl,rfl,rfl⟩,trivial,sm,o',v,rfl⟩
end
end Go.Proofs.YtlolfmoolgenpaaGreat

namespace Go.Proofs.YtlolfmoolgenpaaGreat
open Go.RowKit
inductive Runs (t n k m κ : Nat) (z : Int) (own : Bool) : Nat -> Nat -> Q -> Al -> Q -> Al -> Prop where
 | one {σ : Nat} {q : Q} {α : Al} {q' : Q} {α' : Al} (ho : α.over? = false) (ht : alTurn t n k m κ z own σ q α = (q',α')) (h : α'.over? = true) : Runs t n k m κ z own 1 σ q α q' α'
 | more {N σ : Nat} {q : Q} {α : Al} {q1 : Q} {α1 : Al} {q' : Q} {α' : Al} (ho : α.over? = false) (ht : alTurn t n k m κ z own σ q α = (q1,α1)) (h : α1.over? = false) (g : Runs t n k m κ z own N (σ + 1) q1 α1 q' α') : Runs t n k m κ z own (N + 1) σ q α q' α'
section
variable {w : World} {L : Loc} {t n k m σ κ : Nat} {s : Mm} {q : Q} {z : Int} {own : Bool}
end
end Go.Proofs.YtlolfmoolgenpaaGreat

namespace Go.Proofs.YtlolfmoolgenpaaGreat
open Go.RowKit
theorem packH_is (x G : Nat) (hx : x <= 65535) (hG : G <= 65535) : packH x G = x + G * 65536:=by
 unfold packH
 rw [cut_id x 16 (by omega) (by simp;omega),cut_id G 16 (by omega) (by simp;omega)]
theorem packOw_is (kd Z x G : Nat) (own : Bool) (hk : kd <= 3) (hZ : Z <= 65535) (hx : x <= 65535) (hG : G <= 65535) : packOw kd Z x G own = kd + Z * 4 + x * 262144 + G * 17179869184 + (if own then 1125899906842624 else 0):=by
 unfold packOw packO
 rw [cut_id kd 2 (by omega) (by simp;omega),cut_id Z 16 (by omega) (by simp;omega),cut_id x 16 (by omega) (by simp;omega),cut_id G 16 (by omega) (by simp;omega)]
 cases own <;> simp
theorem size_room {Z κ : Nat} (h1 : 1 <= Z) (hK : classOf Z = κ) : Z + 1 <= room κ:=by
 have : (Z <= 2 /\ κ = 0) \/ (Z <= 4 /\ κ = 1) \/ (Z <= 8 /\ κ = 2) \/ (Z <= 16 /\ κ = 3):=by
  unfold classOf at hK
  repeat' split at hK
  all_goals omega
 rcases this with ⟨h,rfl⟩ | ⟨h,rfl⟩ | ⟨h,rfl⟩ | ⟨h,rfl⟩ <;> simp only [room] <;> omega
end Go.Proofs.YtlolfmoolgenpaaGreat

namespace Go.Proofs.YtlolfmoolgenpaaGreat
open Go.RowKit
theorem upd_upd {α : Type} (f : Nat -> α) (a : Nat) (u v : α) : upd (upd f a u) a v = upd f a v:=by
 funext x
 by_cases h : x = a
 · subst h;rw [upd_same,upd_same]
 · rw [upd_other _ _ _ _ h,upd_other _ _ _ _ h,upd_other _ _ _ _ h]
structure Alone (k : Nat) (y : Y) (nx : Nat) : Prop where
 le : nx <= k
 opd : ∀ i,i < nx -> (y.ck i).st = 1
 fre : ∀ i,nx <= i -> i < k -> (y.ck i).st = 0 /\ (y.ck i).us = 0
 opn : ∀ κ,κ < 4 -> ∀ i,y.op κ = i + 1 -> i < nx /\ (y.ck i).cl = κ
theorem alone0 (k : Nat) : Alone k Y.new 0:=⟨Nat.zero_le _,fun i h=>absurd h (by omega),fun _ _ _=>⟨rfl,rfl⟩,fun _ _ i h=>absurd h (by simp [Y.new])⟩
inductive Got (k m κ : Nat) (bs : Nat -> Nat) (y : Y) (nx : Nat) : Y -> Nat -> Pl -> Prop where
 | fit (i : Nat) (h : y.op κ = i + 1) (hu : (y.ck i).us + room κ <= m) : Got k m κ bs y nx ⟨upd y.ck i ⟨1,κ,(y.ck i).us + room κ,(y.ck i).sp⟩,y.op⟩ nx (.won (bs i + (y.ck i).us) i)
 | new (hno : ∀ i,y.op κ = i + 1 -> ¬ (y.ck i).us + room κ <= m) (h : nx < k) : Got k m κ bs y nx ⟨upd y.ck nx ⟨1,κ,room κ,(y.ck nx).sp + 1⟩,upd y.op κ (nx + 1)⟩ (nx + 1) (.won (bs nx) nx)
 | none (hno : ∀ i,y.op κ = i + 1 -> ¬ (y.ck i).us + room κ <= m) (h : nx = k) : Got k m κ bs y nx y nx .none
section
variable {k m κ nx : Nat} {bs : Nat -> Nat} {y : Y}
theorem goes_fit (A : Alone k y nx) (hκ : κ < 4) {i : Nat} (h : y.op κ = i + 1) (hu : (y.ck i).us + room κ <= m) : Goes k m κ bs 3 y .see ⟨upd y.ck i ⟨1,κ,(y.ck i).us + room κ,(y.ck i).sp⟩,y.op⟩ (.won (bs i + (y.ck i).us) i):=by
 obtain ⟨hi,hc⟩:=A.opn κ hκ i h
 have h1:=A.opd i hi
 refine .more (y1:=y) (τ1:=.ask i) rfl (by simp [turn,h]) rfl (.more (y1:=y) (τ1:=.grow i (y.ck i)) rfl (by simp [turn,h1,hc,hu]) rfl (.one rfl ?_ rfl))
 simp only [turn,if_pos,h1,hc]
theorem goes_take (hm : room κ <= m) {sn : Nat} (ho : y.op κ = sn) (h0 : (y.ck nx).st = 0) : Goes k m κ bs 6 y (.look sn nx) ⟨upd y.ck nx ⟨1,κ,room κ,(y.ck nx).sp + 1⟩,upd y.op κ (nx + 1)⟩ (.won (bs nx) nx):=by
 refine .more (y1:=y) (τ1:=.take sn nx (y.ck nx)) rfl (by simp [turn,h0]) rfl ?_
 refine .more (y1:=⟨upd y.ck nx ⟨1,κ,0,(y.ck nx).sp + 1⟩,y.op⟩) (τ1:=.opn sn nx ⟨1,κ,0,(y.ck nx).sp + 1⟩) rfl (by simp [turn]) rfl ?_
 refine .more (y1:=⟨upd y.ck nx ⟨1,κ,0,(y.ck nx).sp + 1⟩,upd y.op κ (nx + 1)⟩) (τ1:=.see) rfl (by simp [turn,ho]) rfl ?_
 refine .more (y1:=⟨upd y.ck nx ⟨1,κ,0,(y.ck nx).sp + 1⟩,upd y.op κ (nx + 1)⟩) (τ1:=.ask nx) rfl (by simp [turn,upd_same]) rfl ?_
 refine .more (y1:=⟨upd y.ck nx ⟨1,κ,0,(y.ck nx).sp + 1⟩,upd y.op κ (nx + 1)⟩) (τ1:=.grow nx ⟨1,κ,0,(y.ck nx).sp + 1⟩) rfl (by simp [turn,upd_same,hm]) rfl ?_
 refine .one rfl ?_ rfl
 simp [turn,upd_same,upd_upd]
theorem goes_look (A : Alone k y nx) (hm : room κ <= m) (hk : nx < k) {sn : Nat} (ho : y.op κ = sn) : ∀ d j,j + d = nx -> Goes k m κ bs (d + 6) y (.look sn j) ⟨upd y.ck nx ⟨1,κ,room κ,(y.ck nx).sp + 1⟩,upd y.op κ (nx + 1)⟩ (.won (bs nx) nx)
 | 0,j,hj=>by
  obtain rfl : j = nx:=by omega
  have:=goes_take (k:=k) (bs:=bs) (m:=m) hm ho (A.fre j (Nat.le_refl _) hk).1
  simpa using this
 | d + 1,j,hj=>by
  have h1:=A.opd j (by omega)
  have:=goes_look A hm hk ho d (j + 1) (by omega)
  refine Goes.more (y1:=y) (τ1:=.look sn (j + 1)) rfl ?_ rfl this
  simp only [turn,h1,adv]
  rw [if_neg (by omega),if_pos (by omega)]
theorem goes_out (A : Alone k y nx) (hk : nx = k) {sn : Nat} : ∀ d j,j + d + 1 = k -> Goes k m κ bs (d + 1) y (.look sn j) y .none
 | 0,j,hj=>by
  have h1:=A.opd j (by omega)
  refine .one rfl ?_ rfl
  simp only [turn,h1,adv]
  rw [if_neg (by omega),if_neg (by omega)]
 | d + 1,j,hj=>by
  have h1:=A.opd j (by omega)
  refine Goes.more (y1:=y) (τ1:=.look sn (j + 1)) rfl ?_ rfl (goes_out A hk d (j + 1) (by omega))
  simp only [turn,h1,adv]
  rw [if_neg (by omega),if_pos (by omega)]
theorem goes_full (hk0 : 1 <= k) (hno : ∀ i,y.op κ = i + 1 -> ¬ (y.ck i).us + room κ <= m) {N : Nat} {y' : Y} {τ' : Pl} (g : ∀ sn,y.op κ = sn -> Goes k m κ bs N y (.look sn 0) y' τ') : ∃ N',N' <= N + 2 /\ Goes k m κ bs N' y .see y' τ':=by
 cases h : y.op κ with
 | zero =>
  refine ⟨N + 1,by omega,.more (y1:=y) (τ1:=.look 0 0) rfl ?_ rfl (g 0 h)⟩
  simp only [turn,h,adv]
  rw [if_pos (by omega)]
 | succ i =>
  have h2:=hno i h
  refine ⟨N + 1 + 1,by omega,.more (y1:=y) (τ1:=.ask i) rfl (by simp [turn,h]) rfl (.more (y1:=y) (τ1:=.look (i + 1) 0) rfl ?_ rfl (g (i + 1) h))⟩
  simp only [turn,adv]
  rw [if_neg (fun e=>h2 e.2.2),if_pos (by omega)]
theorem Got.alone {y' : Y} {nx' : Nat} {τ' : Pl} (A : Alone k y nx) (hκ : κ < 4) (g : Got k m κ bs y nx y' nx' τ') : Alone k y' nx':=by
 cases g with
 | fit i h hu =>
  obtain ⟨hi,hc⟩:=A.opn κ hκ i h
  refine ⟨A.le,fun j hj=>?_,fun j h1 h2=>?_,fun c hcc j hj=>?_⟩
  · by_cases e : j = i
    · subst e;simp [upd_same]
    · simp only [upd_other _ _ _ _ e];exact A.opd j hj
  · have e : j ≠ i:=by omega
    simp only [upd_other _ _ _ _ e];exact A.fre j h1 h2
  · obtain ⟨a1,a2⟩:=A.opn c hcc j hj
    refine ⟨a1,?_⟩
    by_cases e : j = i
    · subst e;simp only [upd_same];exact hc.symm.trans a2
    · simp only [upd_other _ _ _ _ e];exact a2
 | new hno h =>
  refine ⟨h,fun j hj=>?_,fun j h1 h2=>?_,fun c hcc j hj=>?_⟩
  · by_cases e : j = nx
    · subst e;simp [upd_same]
    · simp only [upd_other _ _ _ _ e];exact A.opd j (by omega)
  · have e : j ≠ nx:=by omega
    simp only [upd_other _ _ _ _ e];exact A.fre j (by omega) h2
  · by_cases ec : c = κ
    · subst ec
      simp only [upd_same] at hj
      obtain rfl : nx = j:=by omega
      exact ⟨by omega,by simp [upd_same]⟩
    · simp only [upd_other _ _ _ _ ec] at hj
      obtain ⟨a1,a2⟩:=A.opn c hcc j hj
      have e : j ≠ nx:=by omega
      exact ⟨by omega,by simp only [upd_other _ _ _ _ e];exact a2⟩
 | none hno h=>exact A
theorem alone_goes (A : Alone k y nx) (hκ : κ < 4) (hm : 17 <= m) (hk0 : 1 <= k) (hk : k <= 64) : ∃ N y' nx' τ',N <= k + 8 /\ Goes k m κ bs N y .see y' τ' /\ Got k m κ bs y nx y' nx' τ':=by
 have hr:=room_bd κ
 have hle:=A.le
 by_cases hf : ∃ i,y.op κ = i + 1 /\ (y.ck i).us + room κ <= m
 · obtain ⟨i,h,hu⟩:=hf
   exact ⟨3,_,_,_,by omega,goes_fit A hκ h hu,.fit i h hu⟩
 · have hno : ∀ i,y.op κ = i + 1 -> ¬ (y.ck i).us + room κ <= m:=fun i h hu=>hf ⟨i,h,hu⟩
   by_cases hn : nx < k
   · obtain ⟨N',hN,g⟩:=goes_full hk0 hno (fun sn h=>goes_look (bs:=bs) A (by omega) hn h nx 0 (by omega))
     exact ⟨N',_,_,_,by omega,g,.new hno hn⟩
   · obtain ⟨N',hN,g⟩:=goes_full hk0 hno (fun sn h=>goes_out (m:=m) (κ:=κ) (bs:=bs) A (by omega) (k - 1) 0 (by omega))
     exact ⟨N',_,_,_,by omega,g,.none hno (by omega)⟩
end
end Go.Proofs.YtlolfmoolgenpaaGreat

namespace Go.Proofs.YtlolfmoolgenpaaGreat
open Go.RowKit
section
variable {t n k m κ : Nat} {z : Int} {own : Bool}
theorem place_over {τ : Pl} {q : Q} {x G : Nat} {y' : Y} {τ' : Pl} {σ : Nat} (ht : turn k m κ (base t n k m) q.y τ = (y',τ')) : alTurn t n k m κ z own σ q (.place x G τ) = alPlace q x G (y',τ'):=by
 simp only [alTurn,ht]
theorem Goes.lift {x G : Nat} {N : Nat} {y0 : Y} {τ : Pl} {y' : Y} {τ' : Pl} (g : Goes k m κ (base t n k m) N y0 τ y' τ') : ∀ {σ : Nat} {q : Q},q.y = y0 -> ∀ {M : Nat} {q' : Q} {β α' : Al},(alPlace { q with y:=y' } x G (y',τ')).2 = β -> β.over? = false -> Runs t n k m κ z own M (σ + N) { q with y:=y' } β q' α' -> Runs t n k m κ z own (N + M) σ q (.place x G τ) q' α':=by
 induction g with
 | @one y τ y' τ' ho ht h =>
  intro σ q hq M q' β α' hβ hb r
  subst hq
  have e:=place_over (z:=z) (own:=own) (x:=x) (G:=G) (σ:=σ) ht
  have e2 : alPlace q x G (y',τ') = ({ q with y:=y' },β):=by
   subst hβ
   rcases pl_fate τ' with hf | ⟨a,i,rfl⟩ | rfl
   · rw [h] at hf;cases hf
   · rfl
   · rfl
  rw [Nat.add_comm 1 M]
  exact .more rfl (e.trans e2) hb r
 | @more N y τ y1 τ1 y' τ' ho ht h g ih =>
  intro σ q hq M q' β α' hβ hb r
  subst hq
  have e:=place_over (z:=z) (own:=own) (x:=x) (G:=G) (σ:=σ) ht
  rw [alPlace_on h] at e
  rw [show N + 1 + M = N + M + 1 by omega]
  exact .more rfl e rfl (ih (q:={ q with y:=y1 }) rfl (β:=β) hβ hb (by rw [show σ + 1 + N = σ + (N + 1) by omega];exact r))
def Q.made (q : Q) (x : Nat) (F : List Nat) (y' : Y) (a i κ : Nat) (z : Int) (own : Bool) : Q :=
 ⟨q.c + 1,q.lk,F,y',upd q.lv i (q.lv i + room κ),upd q.sw x (packS 1 a (genOf (q.sw x)) 0),upd (upd q.dw a (packOw 1 z x (genOf (q.sw x)) own)) a (packOw 2 z x (genOf (q.sw x)) own),q.db⟩
def Q.back (q : Q) (x : Nat) (F : List Nat) (y' : Y) : Q:=⟨q.c + 1 + 1,upd q.lk x (hd F),x :: F,y',q.lv,q.sw,q.dw,q.db⟩
theorem runs_none {q : Q} {σ : Nat} (h : q.F = []) : Runs t n k m κ z own 1 σ q (.take .idle) q (.over 7 0 (σ + 1)):=by
 refine .one rfl ?_ rfl
 simp only [alTurn,tkTurn,h,alTake]
 rw [<- h]
theorem runs_take {q : Q} {σ x : Nat} {F : List Nat} (h : q.F = x :: F) {M : Nat} {q' : Q} {α' : Al} (g : Runs t n k m κ z own M (σ + 4) { q with c:=q.c + 1,F:=F } (.place x (genOf (q.sw x)) .see) q' α') : Runs t n k m κ z own (M + 4) σ q (.take .idle) q' α':=by
 refine .more (q1:=q) (α1:=.take (.saw x q.c)) rfl ?_ rfl (.more (q1:=q) (α1:=.take (.lnk x q.c (q.lk x))) rfl ?_ rfl (.more (q1:={ q with c:=q.c + 1,F:=F }) (α1:=.ask x) rfl ?_ rfl (.more (q1:={ q with c:=q.c + 1,F:=F }) (α1:=.place x (genOf (q.sw x)) .see) rfl ?_ rfl g)))
 · simp only [alTurn,tkTurn,h,alTake]
   rw [<- h]
 · simp only [alTurn,tkTurn,alTake]
 · simp only [alTurn,tkTurn,h,alTake,if_true,List.tail_cons]
 · rfl
theorem runs_made {q : Q} {σ x : Nat} {F : List Nat} (h : q.F = x :: F) {N : Nat} {y' : Y} {a i : Nat} (g : Goes k m κ (base t n k m) N q.y .see y' (.won a i)) : Runs t n k m κ z own (N + 4 + 4) σ q (.take .idle) (q.made x F y' a i κ z own) (.over 0 (packH x (genOf (q.sw x))) (σ + 4 + N + 2 + 1)):=by
 refine runs_take h ?_
 refine Goes.lift (q:={ q with c:=q.c + 1,F:=F }) g rfl (β:=.count x (genOf (q.sw x)) a i) rfl rfl ?_
 exact .more (α1:=.head x (genOf (q.sw x)) a i) rfl rfl rfl (.more (α1:=.shw x (genOf (q.sw x)) a i) rfl rfl rfl (.more (α1:=.ready x (genOf (q.sw x)) a i (σ + 4 + N + 1 + 1 + 1)) rfl rfl rfl (.one rfl rfl rfl)))
theorem runs_back {q : Q} {σ x : Nat} {F : List Nat} (h : q.F = x :: F) {N : Nat} {y' : Y} (g : Goes k m κ (base t n k m) N q.y .see y' .none) : Runs t n k m κ z own (N + 3 + 4) σ q (.take .idle) (q.back x F y') (.over 6 0 (σ + 4 + N + 2 + 1)):=by
 refine runs_take h ?_
 refine Goes.lift (q:={ q with c:=q.c + 1,F:=F }) g rfl (β:=.give x (genOf (q.sw x)) .idle) rfl rfl ?_
 refine .more (α1:=.give x (genOf (q.sw x)) (.saw (hd F) (q.c + 1))) rfl rfl rfl (.more (α1:=.give x (genOf (q.sw x)) (.lnk (hd F) (q.c + 1))) rfl rfl rfl (.one rfl ?_ rfl))
 simp only [alTurn,gvTurn,if_true,alGive]
 rfl
end
theorem Got.won_is {k m κ : Nat} {bs : Nat -> Nat} {y y' : Y} {nx nx' a i : Nat} (A : Alone k y nx) (hκ : κ < 4) (hm : room κ <= m) (g : Got k m κ bs y nx y' nx' (.won a i)) : i < k /\ a = bs i + (y.ck i).us /\ (y.ck i).us + room κ <= m /\ (∃ sp,y'.ck i = ⟨1,κ,(y.ck i).us + room κ,sp⟩) /\ ∀ j,j ≠ i -> y'.ck j = y.ck j:=by
 cases g with
 | fit _ h hu =>
  have hlt:=(A.opn κ hκ i h).1
  have:=A.le
  exact ⟨by omega,rfl,hu,⟨(y.ck i).sp,by simp only [upd_same]⟩,fun j hj=>by simp only [upd_other _ _ _ _ hj]⟩
 | new hno h =>
  have h0:=(A.fre nx (Nat.le_refl _) h).2
  refine ⟨h,by rw [h0];rfl,by omega,⟨(y.ck nx).sp + 1,by simp only [upd_same];rw [h0,Nat.zero_add]⟩,fun j hj=>by simp only [upd_other _ _ _ _ hj]⟩
theorem base_apart {t n k m i j u v : Nat} (hu : u < m) (hv : v < m) (hij : j ≠ i) : base t n k m i + u ≠ base t n k m j + v:=by
 unfold base
 intro e
 rcases Nat.lt_or_gt_of_ne hij with h | h
 · have:=Nat.mul_le_mul_right m (Nat.succ_le_of_lt h)
   rw [Nat.succ_mul] at this
   omega
 · have:=Nat.mul_le_mul_right m (Nat.succ_le_of_lt h)
   rw [Nat.succ_mul] at this
   omega
section
variable {t n k m κ nx : Nat} {q : Q} {z : Int} {own : Bool}
end
end Go.Proofs.YtlolfmoolgenpaaGreat

namespace Go.Proofs.YtlolfmoolgenpaaGreat
open Go.RowKit
section
variable {P : Program} {ops : Array Oper} {Q : Exit -> Act -> World -> Prop} {R : World -> World -> Prop}
variable {G : World -> World -> Prop} {Φ : Nat -> World -> Prop} {ws : List Nat}
theorem wpAny_phaseT {m g : Nat} {W : World} {ks : List (Want R)} {a : Act} {K : Act -> World -> Prop} (htr : ∀ x y z,R x y -> R y z -> R x z) (hGR : ∀ x y,G x y -> R x y) (hGΦ : ∀ x y p,G x y -> Φ p x -> Φ p y)
 (hsz : ops.size = m + g) (htail : g = 0 \/ (Region.sinkB .any ops m = true /\ Region.chainB .any ops m = true)) (hsel : Region.noSelect ops = true) (hB : relyB ops m = true) (hback : backB ops m = true) (hfo : followB ops ws = true) (hwm : ws.all (· < m) = true)
 (hall : phaseAll P R G Φ ws ops W K 0 (ops.toList.take m) ks [] a)
 (hK : ∀ (a' : Act) (w' : World) (listed : Array Bool),K a' w' -> listed.size = ops.size -> (∀ i,i < ops.size -> listed.getD i false = decide (i < m)) -> wpAny P .any ops Q g listed a' w') :
 ∀ (f : Nat) (listed : Array Bool) (vs : List Value) (w : World),left m listed = f -> HeadInv .any ops m listed -> vs.length = m -> (∀ (r : Nat) (c : Value),ks[r]? = some (Want.val c) -> vs[r]? = some c) ->
  (∀ (r : Nat) (k : Want R) (v : Value),ks[r]? = some k -> vs[r]? = some v -> listed.getD r false = true -> k.pred w v) -> R W w -> Φ (doneN ws listed) w ->
  wpAny P .any ops Q (f + g) listed (putL (fun k=>listed.getD k false) (ops.toList.take m) vs 0 a) w:=by
 have hlen : (ops.toList.take m).length = m:=by simp;omega
 have hks : ks.length = m:=by rw [phaseAll_length _ _ _ _ _ hall,hlen]
 have hpre : ∀ r,r < m -> (ops.toList.take m)[r]? = ops[r]?:=fun r hr=>by
  rw [List.getElem?_take_of_lt hr];simp
 intro f
 induction f with
 | zero =>
  intro listed vs w hl inv hvl hvc hp hw hΦ
  have h1:=left_zero hl
  rw [Nat.zero_add,putL_congr (L':=fun _=>true) _ _ _ _ (fun i _ hi=>h1 i (by omega))]
  have hdone : doneN ws listed = ws.length:=by
   unfold doneN
   rw [List.countP_eq_length]
   intro c hc
   exact h1 c (by simpa using List.all_eq_true.1 hwm c hc)
  rw [hdone] at hΦ
  refine hK _ _ listed (phaseAll_end _ ks vs 0 [] a hall (by omega) w hw hΦ trivial fun r k v hk hv=>hp r k v hk hv (h1 r ?_)) inv.size fun i hi=>?_
  · have:=(List.getElem?_eq_some_iff.1 hk).1;omega
  · rcases Nat.lt_or_ge i m with h2 | h2
    · rw [h1 i h2];simp [h2]
    · rw [getD_both (inv.tail i h2 hi)];simp;omega
 | succ f ih =>
  intro listed vs w hl inv hvl hvc hp hw hΦ
  rw [show f + 1 + g = (f + g) + 1 from by omega]
  obtain ⟨i0,hi0,hu0,hb0⟩:=left_some m (by omega : left m listed ≠ 0)
  have hu0' : listed.getD i0 true = false:=getD_in (by rw [inv.size];omega) hu0
  refine ⟨fun h0=>?_,fun i hi=>?_⟩
  · exfalso
    have h1:=List.all_eq_true.1 hback i0 (List.mem_range.2 hi0)
    have hlt : i0 < ops.size:=by omega
    rw [Array.getElem?_eq_getElem hlt] at h1
    have h2 : i0 ∈ Region.ready .any ops listed:=by
     rw [mem_ready]
     refine ⟨hu0',ops[i0],Array.getElem?_eq_getElem hlt,fun e he hb=>?_⟩
     have:=Array.all_eq_true_iff_forall_mem.1 h1 e he
     simp [hb] at this
     exact hb0 _ this
    rw [h0] at h2
    cases h2
  · obtain ⟨hun,o,ho,hafter⟩:=mem_ready.1 hi
    have hin : i < m:=by
     rcases Nat.lt_or_ge i m with h | h
     · exact h
     · rcases htail with h0 | ⟨hsink,hchain⟩
       · have:=(Array.getElem?_eq_some_iff.1 ho).1;omega
       · have hlt:=(Array.getElem?_eq_some_iff.1 ho).1
         exact absurd hi (tail_waits hsink hchain (by omega) inv _ i0 rfl hi0 hu0' i h)
    have hun':=getD_both hun
    have hisz : i < listed.size:=by rw [inv.size];omega
    have inv':=inv.set hi hin
    have hl' : left m (listed.setIfInBounds i true) = f:=by have:=left_set hisz hun' m hin;omega
    have hset : (listed.setIfInBounds i true).getD i false = true:=by simp [hisz]
    have so:=relyB_spec hB hin ho
    obtain ⟨k,hk⟩ : ∃ k,ks[i]? = some k:=⟨ks[i],List.getElem?_eq_getElem (by omega)⟩
    have hwaits : ∀ r,Region.waitsFor .any ops i r = true -> listed.getD r false = true:=fun r hr=>by
     obtain ⟨oj,hoj,e,he,hb,hon⟩:=Region.waitsFor_spec hr
     have : oj = o:=Option.some.inj (hoj.symm.trans ho)
     subst this
     have h3:=hafter e he hb
     rwa [hon] at h3
    have hst0:=phaseAll_at (i:=i) _ ks vs 0 [] a o k hall ((hpre i hin).trans ho) hk (by omega) hvc w hw trivial
     (fun r k' v _ h1 h2 h3=>hp r k' v h1 h2 (hwaits r (by simpa using h3)))
    rw [Nat.zero_add] at hst0
    -- what the operation does,whichever it is
    have hst : phaseStep P (fun x y=>R x y /\ Φ (doneN ws (listed.setIfInBounds i true)) y) ops o (putL (fun q=>decide (q < i)) (ops.toList.take m) vs 0 a) w k.pred:=by
     have weak : ∀ {E : World -> World -> Prop} {E' : World -> World -> Prop} (φ : World -> Value -> Prop) (x : World) (r : Result Next),(∀ y,E x y -> E' x y) -> relyUpon P E x φ r -> relyUpon P E' x φ r:=by
      intro E E' φ x r hE h
      cases r with
      | ok n w' =>
       cases n <;> simp only [relyUpon] at h ⊢
       case value u=>exact ⟨hE _ h.1,h.2⟩
       case skip=>exact ⟨hE _ h.1,h.2⟩
       case enter fn args=>exact h.mono fun e w'' ⟨u,he,h1,h2⟩=>⟨u,he,hE _ h1,h2⟩
      | halt x w'=>simp only [relyUpon] at h
     cases hph : phaseOf ws i with
     | some p =>
      rw [hph] at hst0
      have hd:=done_is inv hfo hi hph
      rw [hd] at hΦ
      rw [done_set inv hfo hi hin hisz hph]
      rcases hst0 hΦ with ⟨h1,h2⟩ | ⟨h1,h2,h3⟩
      · exact .inl ⟨h1,weak _ _ _ (fun y hy=>hy) h2⟩
      · exact .inr ⟨h1,h2,h3⟩
     | none =>
      rw [hph] at hst0
      rw [done_same hph]
      rcases hst0 with ⟨h1,h2⟩ | ⟨h1,h2,h3⟩
      · exact .inl ⟨h1,weak _ _ _ (fun y hy=>⟨hGR _ _ hy,hGΦ _ _ _ hy hΦ⟩) h2⟩
      · exact .inr ⟨h1,⟨hGR _ _ h2,hGΦ _ _ _ h2 hΦ⟩,h3⟩
    have hsame : ∀ t,t ∈ o.looksAt ops -> (putL (fun k=>listed.getD k false) (ops.toList.take m) vs 0 a).eval (.tmp t) = (putL (fun q=>decide (q < i)) (ops.toList.take m) vs 0 a).eval (.tmp t):=fun t hlook=>by
     refine putL_eval _ _ _ _ _ rfl rfl fun r o' ho' hd=>?_
     have hrm : r < m:=by have:=(List.getElem?_eq_some_iff.1 ho').1;omega
     obtain ⟨h1,h2⟩:=so.data r o' t hrm ((hpre r hrm).symm.trans ho') hd hlook
     simp only [Nat.zero_add]
     rw [hwaits r h2];simp [h1]
    have heq : execOp (putL (fun k=>listed.getD k false) (ops.toList.take m) vs 0 a).eval o = execOp (putL (fun q=>decide (q < i)) (ops.toList.take m) vs 0 a).eval o:=by
     refine execOp_congr o (fun cs b=>Region.noSelect_spec hsel i o cs b ho) fun x hx=>?_
     cases x with
     | tmp t=>exact hsame t (List.mem_append_left _ (List.mem_filterMap.2 ⟨.tmp t,by simpa using hx,rfl⟩))
     | _=>rfl
    have hwant:=wanted_same (ops:=ops) (o:=o) (a:=putL (fun k=>listed.getD k false) (ops.toList.take m) vs 0 a) (a':=putL (fun q=>decide (q < i)) (ops.toList.take m) vs 0 a) (by rw [putL_size,putL_size]) hsame
    -- what follows an operation's outcome
    have next : ∀ (u : Value) (w' : World),(R w w' /\ Φ (doneN ws (listed.setIfInBounds i true)) w') -> k.pred w' u -> wpAny P .any ops Q (f + g) (listed.setIfInBounds i true) ((putL (fun k=>listed.getD k false) (ops.toList.take m) vs 0 a).put o.dst u) w':=by
     intro u w' hRΦ hku
     have hR:=hRΦ.1
     have hiv : i < vs.length:=by omega
     have hfr : (putL (fun k=>listed.getD k false) (ops.toList.take m) vs 0 a).put o.dst u = putL (fun k=>(listed.setIfInBounds i true).getD k false) (ops.toList.take m) (vs.set i u) 0 a:=by
      rw [putL_vals (L:=fun k=>listed.getD k false) (ops.toList.take m) vs (vs.set i u) 0 a (by simp) (fun r hr=>?_)]
      · rw [putL_set (L:=fun k=>listed.getD k false) (L':=fun k=>(listed.setIfInBounds i true).getD k false) (i:=i) (ops.toList.take m) (vs.set i u) 0 a o u ((hpre i hin).trans ho) (by simp [hiv]) ?_ ?_ ?_ ?_]
        · intro r s x y hx hy hrs d hd
          have hsm : s < m:=by have:=(List.getElem?_eq_some_iff.1 hy).1;omega
          exact (relyB_spec hB hsm ((hpre s hsm).symm.trans hy)).ap r x d hrs ((hpre r (by omega)).symm.trans hx) hd
        · simpa using hun'
        · simpa using hset
        · intro q hq;exact getD_set_ne false (by omega)
      · have : i ≠ r:=fun e=>by subst e;simp only [Nat.zero_add] at hr;rw [hun'] at hr;cases hr
        rw [List.getElem?_set_ne this]
     rw [hfr]
     refine ih _ (vs.set i u) w' hl' inv' (by simpa using hvl) (fun r c hc=>?_) (fun r k' v hk' hv hlr=>?_) (htr _ _ _ hw hR) hRΦ.2
     · by_cases e : i = r
       · subst e
         rw [hk] at hc
         cases hc
         have : u = c:=hku
         subst this
         simp [hiv]
       · rw [List.getElem?_set_ne e];exact hvc r c hc
     · by_cases e : i = r
       · subst e
         rw [hk] at hk'
         cases hk'
         simp only [List.getElem?_set_self hiv,Option.some.injEq] at hv
         subst hv
         exact hku
       · rw [List.getElem?_set_ne e] at hv
         rw [getD_set_ne false e] at hlr
         exact k'.keeps hR (hp r k' v hk' hv hlr)
    unfold wpOp
    simp only [ho]
    rcases hst with ⟨hwt,hup⟩ | ⟨hwt,hE,hup⟩
    · rw [if_pos (hwant.trans hwt)]
      refine .inl ?_
      unfold Oper.wp
      rw [heq]
      generalize (execOp (putL (fun q=>decide (q < i)) (ops.toList.take m) vs 0 a).eval o).run P w = r at *
      cases r with
      | ok n w' =>
       cases n <;> simp only [relyUpon] at hup <;> simp only [Oper.upon]
       case value u=>exact next u w' hup.1 hup.2
       case skip=>exact next undef w' hup.1 hup.2
       case enter fn args=>exact hup.mono fun e w'' ⟨u,he,h1,h2⟩=>by subst he;exact next u w'' h1 h2
      | halt x w'=>simp only [relyUpon] at hup
    · rw [if_neg (by rw [hwant,hwt];simp)]
      exact next undef w hE hup
theorem wp_region_phase_tail {id : Nat} {l : List Oper} {a : Act} {W : World} (R G : World -> World -> Prop) (Φ : Nat -> World -> Prop) (m : Nat) (ws : List Nat) (ks : List (Want R)) (hm : P.follows .mixedOrders = true) (hrefl : ∀ x,R x x) (htr : ∀ x y z,R x y -> R y z -> R x z)
 (hGR : ∀ x y,G x y -> R x y) (hGΦ : ∀ x y p,G x y -> Φ p x -> Φ p y) (hΦ : Φ 0 W.drew) (hlt : m <= l.length)
 (hsel : Region.noSelect l.toArray = true) (hB : relyB l.toArray m = true) (hback : backB l.toArray m = true) (hfo : followB l.toArray ws = true) (hwm : ws.all (· < m) = true)
 (hsink : Region.sinkB .any l.toArray m = true) (hchain : Region.chainB .any l.toArray m = true) (hseq : Region.seqB .any l.toArray (l.drop m).length m (headListed m (l.drop m).length) = true)
 (hall : phaseAll P R G Φ ws l.toArray W.drew (fun a' w'=>wpList P l.toArray Q (l.drop m) a' w') 0 (l.take m) ks [] a) : (Code.region id l.toArray true).wp P Q a W:=by
 refine wp_region_any hm ?_
 have hz : ∀ i,(Array.replicate l.toArray.size false).getD i false = false:=fun i=>getD_replicate_false _ _
 have hsz : l.toArray.size = m + (l.drop m).length:=by simp;omega
 have hlen : ks.length = m:=by
  rw [phaseAll_length _ _ _ _ _ hall];simp;omega
 have h:=wpAny_phaseT (P:=P) (ops:=l.toArray) (Q:=Q) (m:=m) (g:=(l.drop m).length) (W:=W.drew) (ks:=ks) (a:=a) (K:=fun a' w'=>wpList P l.toArray Q (l.drop m) a' w') htr hGR hGΦ hsz (.inr ⟨hsink,hchain⟩) hsel hB hback hfo hwm (by simpa using hall) ?_ m (Array.replicate l.toArray.size false) (ks.map Want.guess) W.drew ?_ ?_ (by simpa using hlen) (guess_val ks)
  (fun r k v _ _ h=>by rw [hz r] at h;cases h) (hrefl _) ?_
 · rw [putL_none _ _ _ _ (fun i _=>hz i),<- hsz] at h
   exact h
 · intro a' w' listed hk hs hL
   have e : listed = headListed m (l.drop m).length:=by
    apply Array.ext
    · rw [hs,hsz];simp [headListed]
    · intro i h1 h2
      have h3:=hL i (by omega)
      simp [h1] at h3
      simp [headListed,h3]
   rw [e]
   exact wpAny_of_seq (l.drop m) m _ a' w' (fun j=>by simp [List.getElem?_drop]) hseq hk
 · unfold left
   rw [List.countP_eq_length.2 (fun i _=>by rw [hz i];rfl)]
   simp
 · refine ⟨by simp,fun j oj _ h=>?_,fun t ht ht'=>by simp at ht';simp [ht']⟩
   rw [hz j] at h;cases h
 · have : doneN ws (Array.replicate l.toArray.size false) = 0:=by
    unfold doneN
    rw [List.countP_eq_zero]
    intro c _
    rw [hz c];simp
   rw [this]
   exact hΦ
end
end Go.Proofs.YtlolfmoolgenpaaGreat

namespace Go.Proofs.YtlolfmoolgenpaaGreat
open Go.RowKit
section
variable {w0 w w' : World} {L : Loc} {bE t n k m σ nx : Nat} {s : Mm} {q : Q} {own : Bool}
end
end Go.Proofs.YtlolfmoolgenpaaGreat
