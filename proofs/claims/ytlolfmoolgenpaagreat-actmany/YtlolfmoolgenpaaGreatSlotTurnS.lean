import Derived.Test.YtlolfmoolgenpaaGreatPlaceAsk
import Derived.Test.YtlolfmoolgenpaaGreatWord
import Derived.Test.YtlolfmoolgenpaaGreatLayRef
namespace Go.Proofs.YtlolfmoolgenpaaGreat
open Go.RowKit
def topw (h c : Nat) : Int:=(h : Int) + (c : Int) * 131072
theorem topw_inj {h c h' c' : Nat} (a : h < 131072) (a' : h' < 131072) (e : topw h c = topw h' c') : h = h' /\ c = c':=by
 unfold topw at e;omega
theorem topw_is (h c : Nat) (a : h <= 65536) (b : c <= 68719476735) : packT (h : Int) c = topw h c:=by
 unfold packT topw
 rw [cut_id _ 17 (by omega) (by simp;omega),cut_id _ 36 (by omega) (by simp;omega)]
theorem top_w (h c : Nat) (w : World) (a : h <= 65536) (b : c <= 68719476735) :
 Calls Tryz.prog 93 #[.int .u64 (topw h c)] w fun e w'=>e = .returned (.tuple #[.int .i64 ((h : Int) - 1),.int .i64 c]) /\ w' = w:=by
 have k:=top_any (topw h c) w (by unfold topw;omega) (by unfold topw;omega)
 have e1 : topw h c % 131072 - 1 = (h : Int) - 1:=by unfold topw;omega
 have e2 : topw h c / 131072 % 68719476736 = (c : Int):=by unfold topw;omega
 rwa [e1,e2] at k
theorem putTop_w (h c : Nat) (w : World) (a : h <= 65536) (b : c <= 68719476735) :
 Calls Tryz.prog 31 #[.int .i64 ((h : Int) - 1),.int .i64 c] w fun e w'=>e = .returned (.int .u64 (topw h c)) /\ w' = w:=by
 have k:=putTop_any ((h : Int) - 1) c w (by omega) (by omega) ⟨by omega,by omega⟩
 have e1 : (h : Int) - 1 + 1 = h:=by omega
 rwa [e1,topw_is h c a b] at k
def hd : List Nat -> Nat
 | []=>0
 | x :: _=>x + 1
def Chain (lk : Nat -> Nat) : List Nat -> Prop
 | []=>True
 | x :: F=>lk x = hd F /\ Chain lk F
theorem Chain.set {lk : Nat -> Nat} {F : List Nat} (h : Chain lk F) (x v : Nat) (hx : x ∉ F) : Chain (upd lk x v) F:=by
 induction F with
 | nil=>trivial
 | cons y F ih =>
  simp only [List.mem_cons,not_or] at hx
  exact ⟨by rw [upd_other _ _ _ _ (fun e=>hx.1 e.symm)];exact h.1,ih h.2 hx.2⟩
structure Pile (t n : Nat) (s : Mm) (σ c : Nat) (lk : Nat -> Nat) (F : List Nat) : Prop where
 len : 6 + t + n * 2 <= s.n
 big : n <= 65535
 st : s.steps = σ
 cs : c <= σ
 top : s.wd 1 = topw (hd F) c
 lkv : ∀ i,i < n -> s.wd (6 + t + i * 2 + 1) = topw (lk i) 0
 lkle : ∀ i,i < n -> lk i <= n
 chain : Chain lk F
 nd : F.Nodup
 lt : ∀ x,x ∈ F -> x < n
namespace Pile
variable {t n : Nat} {s : Mm} {σ c : Nat} {lk : Nat -> Nat} {F : List Nat}
theorem hdle (h : Pile t n s σ c lk F) : hd F <= n:=by
 cases F with
 | nil=>exact Nat.zero_le _
 | cons x F=>have:=h.lt x (by simp);simp only [hd];omega
theorem wrapS (_ : Pile t n s σ c lk F) (hσ : σ < 1000000) : wrap64 ((σ : Int) + 1) = ((σ + 1 : Nat) : Int):=by
 unfold wrap64;omega
theorem same (h : Pile t n s σ c lk F) (hσ : σ < 1000000) (who : Int) (a : Nat) : Pile t n ((s.by who).step a (s.wd a)) (σ + 1) c lk F:=by
 have e : ((s.by who).step a (s.wd a)).wd = s.wd:=upd_id _ _
 refine ⟨h.len,h.big,?_,by have:=h.cs;omega,by rw [e];exact h.top,fun i hi=>by rw [e];exact h.lkv i hi,h.lkle,h.chain,h.nd,h.lt⟩
 show wrap64 (s.steps + 1) = _
 rw [h.st,h.wrapS hσ]
theorem pop {x : Nat} (h : Pile t n s σ c lk (x :: F)) (hσ : σ < 1000000) (who : Int) : Pile t n ((s.by who).step 1 (topw (lk x) (c + 1))) (σ + 1) (c + 1) lk F:=by
 refine ⟨h.len,h.big,?_,by have:=h.cs;omega,?_,fun i hi=>?_,h.lkle,h.chain.2,(List.nodup_cons.1 h.nd).2,fun y hy=>h.lt y (List.mem_cons_of_mem _ hy)⟩
 · show wrap64 (s.steps + 1) = _
   rw [h.st,h.wrapS hσ]
 · rw [h.chain.1]
   show upd s.wd 1 (topw (hd F) (c + 1)) 1 = topw (hd F) (c + 1)
   exact upd_same _ _ _
 · show upd s.wd 1 _ _ = _
   rw [upd_other _ _ _ _ (by omega)];exact h.lkv i hi
theorem lay (h : Pile t n s σ c lk F) (hσ : σ < 1000000) (who : Int) {x : Nat} (hx : x < n) (hF : x ∉ F) (q : Nat) (hq : q <= n) : Pile t n ((s.by who).step (6 + t + x * 2 + 1) (topw q 0)) (σ + 1) c (upd lk x q) F:=by
 refine ⟨h.len,h.big,?_,by have:=h.cs;omega,?_,fun i hi=>?_,fun i hi=>?_,h.chain.set x q hF,h.nd,h.lt⟩
 · show wrap64 (s.steps + 1) = _
   rw [h.st,h.wrapS hσ]
 · show upd s.wd _ _ 1 = _
   rw [upd_other _ _ _ _ (by omega)];exact h.top
 · show upd s.wd _ _ _ = _
   by_cases hi' : i = x
   · subst hi';rw [upd_same,upd_same]
   · rw [upd_other _ _ _ _ (by omega),upd_other _ _ _ _ hi'];exact h.lkv i hi
 · by_cases hi' : i = x
   · subst hi';rw [upd_same];exact hq
   · rw [upd_other _ _ _ _ hi'];exact h.lkle i hi
theorem push (h : Pile t n s σ c lk F) (hσ : σ < 1000000) (who : Int) {x : Nat} (hx : x < n) (hF : x ∉ F) (hl : lk x = hd F) : Pile t n ((s.by who).step 1 (topw (x + 1) (c + 1))) (σ + 1) (c + 1) lk (x :: F):=by
 refine ⟨h.len,h.big,?_,by have:=h.cs;omega,?_,fun i hi=>?_,h.lkle,⟨hl,h.chain⟩,List.nodup_cons.2 ⟨hF,h.nd⟩,fun y hy=>?_⟩
 · show wrap64 (s.steps + 1) = _
   rw [h.st,h.wrapS hσ]
 · show upd s.wd 1 _ 1 = _
   rw [upd_same];rfl
 · show upd s.wd 1 _ _ = _
   rw [upd_other _ _ _ _ (by omega)];exact h.lkv i hi
 · rcases List.mem_cons.1 hy with rfl | hy
   · exact hx
   · exact h.lt y hy
end Pile
def upFrom (s : Nat) : Nat -> List Nat
 | 0=>[]
 | k + 1=>(s - (k + 1)) :: upFrom s k
theorem upFrom_mem (s : Nat) : ∀ k,k <= s -> ∀ x,x ∈ upFrom s k -> s - k <= x /\ x < s
 | 0,_,x,h=>by simp [upFrom] at h
 | k + 1,hk,x,h=>by
  rcases List.mem_cons.1 h with rfl | h
  · omega
  · have:=upFrom_mem s k (by omega) x h;omega
theorem upFrom_nodup (s : Nat) : ∀ k,k <= s -> (upFrom s k).Nodup
 | 0,_=>List.nodup_nil
 | k + 1,hk=>List.nodup_cons.2 ⟨fun h=>by have:=upFrom_mem s k (by omega) _ h;omega,upFrom_nodup s k (by omega)⟩
def link0 (s j : Nat) : Nat:=if j + 1 < s then j + 2 else 0
theorem upFrom_chain (s : Nat) : ∀ k,k <= s -> Chain (link0 s) (upFrom s k)
 | 0,_=>trivial
 | 1,hk=>⟨if_neg (show ¬ (s - (0 + 1) + 1 < s) by omega),trivial⟩
 | k + 2,hk=>⟨(if_pos (show s - (k + 1 + 1) + 1 < s by omega)).trans (show s - (k + 1 + 1) + 2 = s - (k + 1) + 1 by omega),upFrom_chain s (k + 1) (by omega)⟩
theorem laid_steps (t s len j : Nat) (hj : j <= 65536) : (Mm.laid t s len j).steps = ((1 + 2 * j : Nat) : Int):=by
 induction j with
 | zero=>show wrap64 (0 + 1) = _;unfold wrap64;omega
 | succ j ih =>
  show wrap64 (wrap64 ((Mm.laid t s len j).steps + 1) + 1) = _
  rw [ih (by omega)]
  unfold wrap64;omega
theorem pile0 (t n len : Nat) (h1 : 1 <= n) (h2 : n <= 65535) (hl : 6 + t + n * 2 <= len) : Pile t n (Mm.laid t n len n) (1 + 2 * n) 0 (link0 n) (upFrom n n):=by
 refine ⟨by rw [Mm.laid_n];exact hl,h2,laid_steps t n len n (by omega),Nat.zero_le _,?_,fun i hi=>?_,fun i hi=>?_,upFrom_chain n n (Nat.le_refl _),upFrom_nodup n n (Nat.le_refl _),fun x hx=>(upFrom_mem n n (Nat.le_refl _) x hx).2⟩
 · rw [laid_top]
   cases n with
   | zero=>omega
   | succ k=>simp only [upFrom,hd,topw];omega
 · rw [laid_link t n len n i hi]
   unfold linkOf link0 topw
   split <;> omega
 · unfold link0;split <;> omega
end Go.Proofs.YtlolfmoolgenpaaGreat

namespace Go.Proofs.YtlolfmoolgenpaaGreat
open Go.RowKit
theorem Pile.off {t n : Nat} {s : Mm} {σ c : Nat} {lk : Nat -> Nat} {F : List Nat} (h : Pile t n s σ c lk F) (hσ : σ < 1000000) (who : Int) (a : Nat) (v : Int) (h1 : a ≠ 1) (h2 : ∀ i,i < n -> a ≠ 6 + t + i * 2 + 1) : Pile t n ((s.by who).step a v) (σ + 1) c lk F:=by
 refine ⟨h.len,h.big,?_,by have:=h.cs;omega,?_,fun i hi=>?_,h.lkle,h.chain,h.nd,h.lt⟩
 · show wrap64 (s.steps + 1) = _
   rw [h.st,h.wrapS hσ]
 · show upd s.wd a v 1 = _
   rw [upd_other _ _ _ _ (Ne.symm h1)];exact h.top
 · show upd s.wd a v _ = _
   rw [upd_other _ _ _ _ (Ne.symm (h2 i hi))];exact h.lkv i hi
theorem Yard.off {t n k m : Nat} {s : Mm} {σ : Nat} {y : Y} (h : Yard t n k m s σ y) (hσ : σ < 1000000) (who : Int) (a : Nat) (v : Int) (h1 : ¬ (2 <= a /\ a < 6)) (h2 : ∀ i,i < k -> a ≠ 6 + t + n * 2 + i * 3) : Yard t n k m ((s.by who).step a v) (σ + 1) y:=by
 refine ⟨h.len,?_,fun i hi=>?_,fun c hc=>?_,fun i hi=>(h.ok i hi).up (by omega),h.opk⟩
 · show wrap64 (s.steps + 1) = _
   rw [h.st,h.wrapS hσ]
 · show upd s.wd a v _ = _
   rw [upd_other _ _ _ _ (Ne.symm (h2 i hi))];exact h.ckv i hi
 · show upd s.wd a v _ = _
   rw [upd_other _ _ _ _ (by omega)];exact h.opv c hc
end Go.Proofs.YtlolfmoolgenpaaGreat

namespace Go.Proofs.YtlolfmoolgenpaaGreat
open Go.RowKit
set_option maxRecDepth 20000
theorem putTop_next (Q C : Nat) (w : World) (a : Q <= 65536) (b : C <= 1000000) :
 Calls Tryz.prog 31 #[.int .i64 ((Q : Int) - 1),.int .i64 ((C : Int) + 1)] w fun e w'=>e = .returned (.int .u64 (topw Q (C + 1))) /\ w' = w:=putTop_w Q (C + 1) w a (by omega)
def TkV (nx tp sl bh : Int) : List Value:=[.int .i64 nx,.int .u64 tp,.int .i64 sl,.int .i64 bh]
def GvV (nx sl tp : Int) : List Value:=[.int .i64 nx,.int .i64 sl,.int .u64 tp]
theorem shas_any (L : Loc) (c0 c1 c2 c3 c4 c5 c6 who sl : Int) (w : World) (d : Bool) (hd : decide (0 <= sl /\ sl < c1) = d) :
 Calls Tryz.prog 106 #[.agg #[.int .i64 c0,.int .i64 c1,.int .i64 c2,.int .i64 c3,.int .i64 c4,.int .i64 c5,.int .i64 c6,.pointer (some ⟨L.p,0,none⟩),.int .i64 who],.int .i64 sl] w fun e w'=>e = .returned (.bool d) /\ Below w.heap.size w w':=by
 subst hd
 by_cases h1 : 0 <= sl
 · by_cases h2 : sl < c1
   · go_enter Tryz.func106,Tryz.ntmps106
     go_wp2
     go_ret
     exact ⟨by simp [h1,h2],grow_alloc (Below.refl _ _) _⟩
   · go_enter Tryz.func106,Tryz.ntmps106
     go_wp2
     go_ret
     exact ⟨by simp [h2],grow_alloc (Below.refl _ _) _⟩
 · go_enter Tryz.func106,Tryz.ntmps106
   go_wp2
   go_ret
   exact ⟨by simp;omega,grow_alloc (Below.refl _ _) _⟩
theorem slotAt_any (t s k n g p r i : Int) (w : World) (t0 : 0 <= t) (t1 : t <= 8) (h0 : 0 <= i) (h1 : i <= 1000000) :
 Calls Tryz.prog 32 #[.agg #[.int .i64 t,.int .i64 s,.int .i64 k,.int .i64 n,.int .i64 g,.int .i64 p,.int .i64 r],.int .i64 i] w fun e w'=>e = .returned (.int .i64 (6 + t + i * 2)) /\ Below w.heap.size w w':=by
 go_enter Tryz.func32,Tryz.ntmps32
 go_wp2_with (go_at_call 16;refine (lpin_any _ _ (by omega) (by omega)).mono ?_;rintro e w' ⟨rfl,rfl⟩)
 go_ret
 exact ⟨rfl,grow_alloc (Below.refl _ _) _⟩
theorem slink_any (L : Loc) (c0 c1 c2 c3 c4 c5 c6 who sl : Int) (w : World) (hc : 0 <= c0 /\ c0 <= 8) (hs : 0 <= sl /\ sl <= 65536) :
 Calls Tryz.prog 94 #[.agg #[.int .i64 c0,.int .i64 c1,.int .i64 c2,.int .i64 c3,.int .i64 c4,.int .i64 c5,.int .i64 c6,.pointer (some ⟨L.p,0,none⟩),.int .i64 who],.int .i64 sl] w fun e w'=>e = .returned (.int .i64 (6 + c0 + sl * 2 + 1)) /\ Below w.heap.size w w':=by
 obtain ⟨hc1,hc2⟩:=hc
 obtain ⟨hs1,hs2⟩:=hs
 go_enter Tryz.func94,Tryz.ntmps94
 go_wp2_with (go_at_call 32;refine (slotAt_any _ _ _ _ _ _ _ _ _ (by omega) (by omega) (by omega) (by omega)).mono ?_;rintro e w' ⟨rfl,b1⟩)
 go_ret
 exact ⟨rfl,grow (grow_alloc (Below.refl _ _) _) b1⟩
theorem swap_yes {w : World} {L : Loc} {s : Mm} (h : MemAt w L s) (c0 c1 c2 c3 c4 c5 c6 who : Int) (H C Q : Nat) (hn : 1 < s.n) (hH : H <= 65536) (hC : C <= 1000000) (hQ : Q <= 65536) (yes : s.wd 1 = topw H C) :
 Calls Tryz.prog 95 #[.agg #[.int .i64 c0,.int .i64 c1,.int .i64 c2,.int .i64 c3,.int .i64 c4,.int .i64 c5,.int .i64 c6,.pointer (some ⟨L.p,0,none⟩),.int .i64 who],.int .u64 (topw H C),.int .i64 ((Q : Int) - 1)] w fun e w'=>e = .returned (.int .i64 3) /\ MemAt w' L ((s.by who).step 1 (topw Q (C + 1))) /\ Only L.has w w':=by
 have hbv : ¬ L.has w.heap.size:=fun hh=>by have:=h.lt _ hh;omega
 go_enter Tryz.func95,Tryz.ntmps95
 go_wp2_with (go_at_call 93;refine (top_w H C _ hH (by omega)).mono ?_;rintro e w1 ⟨rfl,rfl⟩)
 refine wp_over (fun W=>MemAt W L s /\ BoxV W w.heap.size c0 c1 c2 c3 c4 c5 c6 L.p who /\ Only L.has w W) ⟨h.alloc _,BoxV.new,(Only.refl _ _).alloc _⟩ ?_
 rintro W ⟨m1,v1,o1⟩
 refine wp_region_phase (Only L.has) Grown (fun p W'=>match p with | 0=>MemAt W' L s | _=>MemAt W' L ((s.by who).step 1 (topw Q (C + 1)))) [7] [.val (.agg #[.int .i64 c0,.int .i64 c1,.int .i64 c2,.int .i64 c3,.int .i64 c4,.int .i64 c5,.int .i64 c6,.pointer (some ⟨L.p,0,none⟩),.int .i64 who]),.val (.int .i64 1),.val (.int .u64 (topw H C)),.val (.int .i64 ((Q : Int) - 1)),.val (.int .i64 C),.val (.int .i64 ((C : Int) + 1)),.val (.int .u64 (topw Q (C + 1))),.val (.bool true)]
  (by kernel_rfl) (Only.refl _) (fun _ _ _ h k=>h.trans k) (fun x y h=>Only.ofGrown h) (fun x y p h k=>by match p,k with | 0,k=>exact k.below h | p + 1,k=>exact k.below h) m1.drew (by kernel_rfl) (by kernel_rfl) (by kernel_rfl) (by kernel_rfl) (by kernel_rfl) ?_
 simp only [phaseAll,Act.put,List.setIfInBounds_toArray,List.set_cons_zero,List.set_cons_succ]
 refine ⟨?_,?_,?_,?_,?_,?_,?_,?_,?_⟩
 · intro w' hR _
   apply ol
   obtain ⟨y0,y1,y2,y3,y4,y5,y6,y7,y8⟩:=(v1.grown ((Below.refl _ _).drew)).only hR hbv
   go_simp
   exact gl
 · intro w' hR _
   apply ol
   go_simp
   refine (ltop_any _).mono ?_
   rintro e w'' ⟨rfl,rfl⟩
   exact ⟨_,rfl,Grown.refl _,rfl⟩
 · intros;apply ol;go_simp;exact gl
 · intros;apply ol;go_simp;exact gl
 · intros;apply ol;go_simp;exact gl
 · intro w' hR _
   apply ol
   go_simp
   exact ⟨Grown.refl _,by simp only [Want.pred];rw [IntKind.wrap_i64];exact congrArg (Value.int .i64) (by omega)⟩
 · intro w' hR _
   apply ol
   go_simp
   refine (putTop_next Q C _ hQ hC).mono ?_
   rintro e w'' ⟨rfl,rfl⟩
   exact ⟨_,rfl,Grown.refl _,rfl⟩
 · intro w' hR _ hP
   apply ol
   go_simp
   refine (ecas_in (s:=s) hP _ _ _ _ _ _ _ _ 1 hn _ _).mono ?_
   rintro e w'' ⟨rfl,m2,o2⟩
   rw [show (s.by who).cas 1 (topw H C) (topw Q (C + 1)) = (s.by who).step 1 (topw Q (C + 1)) from if_pos yes] at m2
   refine ⟨_,rfl,⟨o2,m2⟩,?_⟩
   simp [Want.pred,yes]
 intro w2 hR m2 _
 have m2' : MemAt w2 L ((s.by who).step 1 (topw Q (C + 1))):=m2
 have o2 : Only L.has w w2:=o1.drew.trans hR
 clear m1 v1 o1 hR m2
 go_wp2
 go_ret
 exact ⟨rfl,m2',o2⟩
theorem swap_no {w : World} {L : Loc} {s : Mm} (h : MemAt w L s) (c0 c1 c2 c3 c4 c5 c6 who : Int) (H C Q : Nat) (hn : 1 < s.n) (hH : H <= 65536) (hC : C <= 1000000) (hQ : Q <= 65536) (no : ¬ s.wd 1 = topw H C) :
 Calls Tryz.prog 95 #[.agg #[.int .i64 c0,.int .i64 c1,.int .i64 c2,.int .i64 c3,.int .i64 c4,.int .i64 c5,.int .i64 c6,.pointer (some ⟨L.p,0,none⟩),.int .i64 who],.int .u64 (topw H C),.int .i64 ((Q : Int) - 1)] w fun e w'=>e = .returned (.int .i64 0) /\ MemAt w' L ((s.by who).step 1 (s.wd 1)) /\ Only L.has w w':=by
 have hbv : ¬ L.has w.heap.size:=fun hh=>by have:=h.lt _ hh;omega
 go_enter Tryz.func95,Tryz.ntmps95
 go_wp2_with (go_at_call 93;refine (top_w H C _ hH (by omega)).mono ?_;rintro e w1 ⟨rfl,rfl⟩)
 refine wp_over (fun W=>MemAt W L s /\ BoxV W w.heap.size c0 c1 c2 c3 c4 c5 c6 L.p who /\ Only L.has w W) ⟨h.alloc _,BoxV.new,(Only.refl _ _).alloc _⟩ ?_
 rintro W ⟨m1,v1,o1⟩
 refine wp_region_phase (Only L.has) Grown (fun p W'=>match p with | 0=>MemAt W' L s | _=>MemAt W' L ((s.by who).step 1 (s.wd 1))) [7] [.val (.agg #[.int .i64 c0,.int .i64 c1,.int .i64 c2,.int .i64 c3,.int .i64 c4,.int .i64 c5,.int .i64 c6,.pointer (some ⟨L.p,0,none⟩),.int .i64 who]),.val (.int .i64 1),.val (.int .u64 (topw H C)),.val (.int .i64 ((Q : Int) - 1)),.val (.int .i64 C),.val (.int .i64 ((C : Int) + 1)),.val (.int .u64 (topw Q (C + 1))),.val (.bool false)]
  (by kernel_rfl) (Only.refl _) (fun _ _ _ h k=>h.trans k) (fun x y h=>Only.ofGrown h) (fun x y p h k=>by match p,k with | 0,k=>exact k.below h | p + 1,k=>exact k.below h) m1.drew (by kernel_rfl) (by kernel_rfl) (by kernel_rfl) (by kernel_rfl) (by kernel_rfl) ?_
 simp only [phaseAll,Act.put,List.setIfInBounds_toArray,List.set_cons_zero,List.set_cons_succ]
 refine ⟨?_,?_,?_,?_,?_,?_,?_,?_,?_⟩
 · intro w' hR _
   apply ol
   obtain ⟨y0,y1,y2,y3,y4,y5,y6,y7,y8⟩:=(v1.grown ((Below.refl _ _).drew)).only hR hbv
   go_simp
   exact gl
 · intro w' hR _
   apply ol
   go_simp
   refine (ltop_any _).mono ?_
   rintro e w'' ⟨rfl,rfl⟩
   exact ⟨_,rfl,Grown.refl _,rfl⟩
 · intros;apply ol;go_simp;exact gl
 · intros;apply ol;go_simp;exact gl
 · intros;apply ol;go_simp;exact gl
 · intro w' hR _
   apply ol
   go_simp
   exact ⟨Grown.refl _,by simp only [Want.pred];rw [IntKind.wrap_i64];exact congrArg (Value.int .i64) (by omega)⟩
 · intro w' hR _
   apply ol
   go_simp
   refine (putTop_next Q C _ hQ hC).mono ?_
   rintro e w'' ⟨rfl,rfl⟩
   exact ⟨_,rfl,Grown.refl _,rfl⟩
 · intro w' hR _ hP
   apply ol
   go_simp
   refine (ecas_in (s:=s) hP _ _ _ _ _ _ _ _ 1 hn _ _).mono ?_
   rintro e w'' ⟨rfl,m2,o2⟩
   rw [show (s.by who).cas 1 (topw H C) (topw Q (C + 1)) = (s.by who).step 1 (s.wd 1) from if_neg no] at m2
   refine ⟨_,rfl,⟨o2,m2⟩,?_⟩
   simp [Want.pred,no]
 intro w2 hR m2 _
 have m2' : MemAt w2 L ((s.by who).step 1 (s.wd 1)):=m2
 have o2 : Only L.has w w2:=o1.drew.trans hR
 clear m1 v1 o1 hR m2
 go_wp2
 go_ret
 exact ⟨rfl,m2',o2⟩
theorem swap_yes_at {w : World} {L : Loc} {s : Mm} (h : MemAt w L s) (c0 c1 c2 c3 c4 c5 c6 who : Int) (H C sl : Nat) (hn : 1 < s.n) (hH : H <= 65536) (hC : C <= 1000000) (hs : sl <= 65535) (yes : s.wd 1 = topw H C) :
 Calls Tryz.prog 95 #[.agg #[.int .i64 c0,.int .i64 c1,.int .i64 c2,.int .i64 c3,.int .i64 c4,.int .i64 c5,.int .i64 c6,.pointer (some ⟨L.p,0,none⟩),.int .i64 who],.int .u64 (topw H C),.int .i64 sl] w fun e w'=>e = .returned (.int .i64 3) /\ MemAt w' L ((s.by who).step 1 (topw (sl + 1) (C + 1))) /\ Only L.has w w':=by
 have k:=swap_yes h c0 c1 c2 c3 c4 c5 c6 who H C (sl + 1) hn hH hC (by omega) yes
 have e : ((sl + 1 : Nat) : Int) - 1 = sl:=by omega
 rwa [e] at k
theorem swap_no_at {w : World} {L : Loc} {s : Mm} (h : MemAt w L s) (c0 c1 c2 c3 c4 c5 c6 who : Int) (H C sl : Nat) (hn : 1 < s.n) (hH : H <= 65536) (hC : C <= 1000000) (hs : sl <= 65535) (no : ¬ s.wd 1 = topw H C) :
 Calls Tryz.prog 95 #[.agg #[.int .i64 c0,.int .i64 c1,.int .i64 c2,.int .i64 c3,.int .i64 c4,.int .i64 c5,.int .i64 c6,.pointer (some ⟨L.p,0,none⟩),.int .i64 who],.int .u64 (topw H C),.int .i64 sl] w fun e w'=>e = .returned (.int .i64 0) /\ MemAt w' L ((s.by who).step 1 (s.wd 1)) /\ Only L.has w w':=by
 have k:=swap_no h c0 c1 c2 c3 c4 c5 c6 who H C (sl + 1) hn hH hC (by omega) no
 have e : ((sl + 1 : Nat) : Int) - 1 = sl:=by omega
 rwa [e] at k
theorem tload_yes {w : World} {L : Loc} {s : Mm} {b o : Nat} {T : TypeId} {cs : Array Value} {tp sl bh : Int} (h : MemAt w L s) (hb : ¬ L.has b) (hi : At w b o T cs (TkV 0 tp sl bh)) (c0 c1 c2 c3 c4 c5 c6 who : Int) (H C : Nat) (hn : 1 < s.n) (hw : s.wd 1 = topw (H + 1) C) (hC : C <= 1000000) (hH : H <= 65535) (yes : (H : Int) < c1) :
 Calls Tryz.prog 92 #[.pointer (some ⟨b,o,none⟩),.agg #[.int .i64 c0,.int .i64 c1,.int .i64 c2,.int .i64 c3,.int .i64 c4,.int .i64 c5,.int .i64 c6,.pointer (some ⟨L.p,0,none⟩),.int .i64 who]] w fun e w'=>e = .returned (.tuple #[]) /\ ∃ cs',MemAt w' L ((s.by who).step 1 (s.wd 1)) /\ At w' b o T cs' (TkV 1 (topw (H + 1) C) (H : Int) bh) /\ Same o 4 cs cs' /\ Only (L.and b) w w':=by
 have hbv : ¬ L.has w.heap.size:=fun hh=>by have:=h.lt _ hh;omega
 have hbb : ¬ w.heap.size = b:=fun hh=>by have:=hi.lt;omega
 have e1 : ((H + 1 : Nat) : Int) - 1 = H:=by omega
 have t1:=fun w=>top_w (H + 1) C w (by omega) (by omega)
 rw [e1] at t1
 obtain ⟨X,hX⟩ : ∃ X,s.wd 1 = X:=⟨_,rfl⟩
 rw [hX] at hw ⊢
 subst hw
 go_enter Tryz.func92,Tryz.ntmps92
 go_wp2
 refine wp_over (fun W=>MemAt W L s /\ At W b o T cs (TkV 0 tp sl bh) /\ BoxV W w.heap.size c0 c1 c2 c3 c4 c5 c6 L.p who /\ Only (L.and b) w W) ⟨h.alloc _,hi.grown (grow_alloc (Below.refl _ _) _),BoxV.new,(Only.refl _ _).alloc _⟩ ?_
 rintro W ⟨m1,i1,v1,o1⟩
 refine wp_region_phase (Only (L.and b)) Grown (phAt L b o T cs (cs.setIfInBounds (o + 1) (.int .u64 (topw (H + 1) C))) s ((s.by who).step 1 (topw (H + 1) C)) (TkV 0 tp sl bh) (TkV 0 (topw (H + 1) C) sl bh)) [3,6] [.val (.pointer (some ⟨b,o,none⟩)),.val (.agg #[.int .i64 c0,.int .i64 c1,.int .i64 c2,.int .i64 c3,.int .i64 c4,.int .i64 c5,.int .i64 c6,.pointer (some ⟨L.p,0,none⟩),.int .i64 who]),.val (.int .i64 1),.val (.int .u64 (topw (H + 1) C)),.val (.pointer (some ⟨b,o,none⟩)),.val (.pointer (some ⟨b,o + 1,none⟩)),.that (fun _ _=>True) (fun _ _ _ _ _=>trivial)]
  (by kernel_rfl) (Only.refl _) (fun _ _ _ h k=>h.trans k) (fun x y h=>Only.ofGrown h) phAt_grown ⟨m1.drew,i1.drew⟩ (by kernel_rfl) (by kernel_rfl) (by kernel_rfl) (by kernel_rfl) (by kernel_rfl) ?_
 simp only [phaseAll,Act.put,List.setIfInBounds_toArray,List.set_cons_zero,List.set_cons_succ]
 refine ⟨?_,?_,?_,?_,?_,?_,?_,?_⟩
 · intros;apply ol;go_simp;exact gl
 · intro w' hR _
   apply ol
   obtain ⟨y0,y1,y2,y3,y4,y5,y6,y7,y8⟩:=(v1.grown ((Below.refl _ _).drew)).only hR (fun hh=>hh.elim hbv hbb)
   go_simp
   exact gl
 · intro w' hR _
   apply ol
   go_simp
   refine (ltop_any _).mono ?_
   rintro e w'' ⟨rfl,rfl⟩
   exact ⟨_,rfl,Grown.refl _,rfl⟩
 · intro w' hR _ hP
   apply ol
   go_simp
   refine (eload_in (s:=s) hP.1 _ _ _ _ _ _ _ _ 1 hn).mono ?_
   rintro e w'' ⟨rfl,m2,o2⟩
   rw [hX] at m2
   exact ⟨_,rfl,⟨o2.andL,m2,hP.2.only o2 hb⟩,by simp [Want.pred,hX]⟩
 · intros;apply ol;go_simp;exact gl
 · intros;apply ol;go_simp;exact gl
 · intro w' hR _ hP
   apply ol
   have z0:=hP.2.cell 1 rfl
   have z1:=hP.2.fz
   go_simp
   exact ⟨⟨(Only.refl _ _).set _ _,hP.1.setIn hb _ _,hP.2.set 1 _⟩,trivial⟩
 intro v w2 hR hP _
 obtain ⟨m2,i2⟩ : MemAt w2 L ((s.by who).step 1 (topw (H + 1) C)) /\ At w2 b o T (cs.setIfInBounds (o + 1) (.int .u64 (topw (H + 1) C))) (TkV 0 (topw (H + 1) C) sl bh):=hP
 have o2 : Only (L.and b) w w2:=o1.drew.trans hR
 have v2:=(v1.grown ((Below.refl _ _).drew)).only hR (fun hh=>hh.elim hbv hbb)
 have s2 : Same o 4 cs (cs.setIfInBounds (o + 1) (.int .u64 (topw (H + 1) C))):=Same.refl.set (by omega) _
 clear hR o1 v1 m1 i1 hX
 have k0:=i2.cell0 rfl
 have k1:=i2.cell 1 rfl
 have k2:=i2.cell 2 rfl
 have kf:=i2.fz
 go_wp2_with (go_at_call 93;refine (t1 _).mono ?_;rintro e w1 ⟨rfl,rfl⟩)
 have i3:=(i2.set 2 (.int .i64 (H : Int))).set0 (.int .i64 1)
 have m3:=(m2.setIn hb (o + 2) (.int .i64 (H : Int))).setIn hb o (.int .i64 1)
 have o3:=(o2.set (o + 2) (.int .i64 (H : Int))).set o (.int .i64 1)
 have s3:=(s2.set (j:=o + 2) (by omega) (.int .i64 (H : Int))).set (j:=o) (by omega) (.int .i64 1)
 refine wp_over (fun W=>MemAt W L _ /\ At W b o T _ (TkV 1 (topw (H + 1) C) (H : Int) bh) /\ BoxV W w.heap.size c0 c1 c2 c3 c4 c5 c6 L.p who /\ Only (L.and b) w W) ⟨m3,i3,(v2.setIn hbb _ _).setIn hbb _ _,o3⟩ ?_
 clear m2 i2 o2 v2 s2 k0 k1 k2 kf m3 i3 o3
 rintro W3 ⟨m3,i3,v3,o3⟩
 have e0:=fun N : Later W3=>(v3.grown N.below).c0
 have e1:=fun N : Later W3=>(v3.grown N.below).c1
 have e2:=fun N : Later W3=>(v3.grown N.below).c2
 have e3:=fun N : Later W3=>(v3.grown N.below).c3
 have e4:=fun N : Later W3=>(v3.grown N.below).c4
 have e5:=fun N : Later W3=>(v3.grown N.below).c5
 have e6:=fun N : Later W3=>(v3.grown N.below).c6
 have e7:=fun N : Later W3=>(v3.grown N.below).c7
 have e8:=fun N : Later W3=>(v3.grown N.below).c8
 have e9:=fun N : Later W3=>(i3.grown N.below).cell 2 rfl
 haveI:=Later.exists W3
 refine wp_region_later (by kernel_rfl) (by kernel_rfl) ?_
 repeat (go_big_quiet_step ((go_at_call 106;exact Calls.later (shas_any L _ _ _ _ _ _ _ _ _ _ true (decide_eq_true ⟨by omega,by omega⟩)))))
 refine wpQuiet_nil ?_
 rintro _ ⟨nq,rfl⟩
 have i4:=i3.grown nq.below
 have m4:=m3.below nq.below
 have o4 : Only (L.and b) w nq.now:=o3.trans (Only.ofGrown nq.below)
 clear e0 e1 e2 e3 e4 e5 e6 e7 e8 e9 v3 i3 m3 o3
 have k0:=i4.cell0 rfl
 have kf:=i4.fz
 go_wp2
 go_end0
 exact ⟨rfl,_,m4,i4,s3,o4⟩
theorem tload_no {w : World} {L : Loc} {s : Mm} {b o : Nat} {T : TypeId} {cs : Array Value} {tp sl bh : Int} (h : MemAt w L s) (hb : ¬ L.has b) (hi : At w b o T cs (TkV 0 tp sl bh)) (c0 c1 c2 c3 c4 c5 c6 who : Int) (C : Nat) (hn : 1 < s.n) (hw : s.wd 1 = topw 0 C) (hC : C <= 1000000)  :
 Calls Tryz.prog 92 #[.pointer (some ⟨b,o,none⟩),.agg #[.int .i64 c0,.int .i64 c1,.int .i64 c2,.int .i64 c3,.int .i64 c4,.int .i64 c5,.int .i64 c6,.pointer (some ⟨L.p,0,none⟩),.int .i64 who]] w fun e w'=>e = .returned (.tuple #[]) /\ ∃ cs',MemAt w' L ((s.by who).step 1 (s.wd 1)) /\ At w' b o T cs' (TkV 4 (topw 0 C) (-1 : Int) bh) /\ Same o 4 cs cs' /\ Only (L.and b) w w':=by
 have hbv : ¬ L.has w.heap.size:=fun hh=>by have:=h.lt _ hh;omega
 have hbb : ¬ w.heap.size = b:=fun hh=>by have:=hi.lt;omega
 have t1 : ∀ w,Calls Tryz.prog 93 #[.int .u64 (topw 0 C)] w fun e w'=>e = .returned (.tuple #[.int .i64 (-1),.int .i64 C]) /\ w' = w:=fun w=>top_w 0 C w (by omega) (by omega)
 obtain ⟨X,hX⟩ : ∃ X,s.wd 1 = X:=⟨_,rfl⟩
 rw [hX] at hw ⊢
 subst hw
 go_enter Tryz.func92,Tryz.ntmps92
 go_wp2
 refine wp_over (fun W=>MemAt W L s /\ At W b o T cs (TkV 0 tp sl bh) /\ BoxV W w.heap.size c0 c1 c2 c3 c4 c5 c6 L.p who /\ Only (L.and b) w W) ⟨h.alloc _,hi.grown (grow_alloc (Below.refl _ _) _),BoxV.new,(Only.refl _ _).alloc _⟩ ?_
 rintro W ⟨m1,i1,v1,o1⟩
 refine wp_region_phase (Only (L.and b)) Grown (phAt L b o T cs (cs.setIfInBounds (o + 1) (.int .u64 (topw 0 C))) s ((s.by who).step 1 (topw 0 C)) (TkV 0 tp sl bh) (TkV 0 (topw 0 C) sl bh)) [3,6] [.val (.pointer (some ⟨b,o,none⟩)),.val (.agg #[.int .i64 c0,.int .i64 c1,.int .i64 c2,.int .i64 c3,.int .i64 c4,.int .i64 c5,.int .i64 c6,.pointer (some ⟨L.p,0,none⟩),.int .i64 who]),.val (.int .i64 1),.val (.int .u64 (topw 0 C)),.val (.pointer (some ⟨b,o,none⟩)),.val (.pointer (some ⟨b,o + 1,none⟩)),.that (fun _ _=>True) (fun _ _ _ _ _=>trivial)]
  (by kernel_rfl) (Only.refl _) (fun _ _ _ h k=>h.trans k) (fun x y h=>Only.ofGrown h) phAt_grown ⟨m1.drew,i1.drew⟩ (by kernel_rfl) (by kernel_rfl) (by kernel_rfl) (by kernel_rfl) (by kernel_rfl) ?_
 simp only [phaseAll,Act.put,List.setIfInBounds_toArray,List.set_cons_zero,List.set_cons_succ]
 refine ⟨?_,?_,?_,?_,?_,?_,?_,?_⟩
 · intros;apply ol;go_simp;exact gl
 · intro w' hR _
   apply ol
   obtain ⟨y0,y1,y2,y3,y4,y5,y6,y7,y8⟩:=(v1.grown ((Below.refl _ _).drew)).only hR (fun hh=>hh.elim hbv hbb)
   go_simp
   exact gl
 · intro w' hR _
   apply ol
   go_simp
   refine (ltop_any _).mono ?_
   rintro e w'' ⟨rfl,rfl⟩
   exact ⟨_,rfl,Grown.refl _,rfl⟩
 · intro w' hR _ hP
   apply ol
   go_simp
   refine (eload_in (s:=s) hP.1 _ _ _ _ _ _ _ _ 1 hn).mono ?_
   rintro e w'' ⟨rfl,m2,o2⟩
   rw [hX] at m2
   exact ⟨_,rfl,⟨o2.andL,m2,hP.2.only o2 hb⟩,by simp [Want.pred,hX]⟩
 · intros;apply ol;go_simp;exact gl
 · intros;apply ol;go_simp;exact gl
 · intro w' hR _ hP
   apply ol
   have z0:=hP.2.cell 1 rfl
   have z1:=hP.2.fz
   go_simp
   exact ⟨⟨(Only.refl _ _).set _ _,hP.1.setIn hb _ _,hP.2.set 1 _⟩,trivial⟩
 intro v w2 hR hP _
 obtain ⟨m2,i2⟩ : MemAt w2 L ((s.by who).step 1 (topw 0 C)) /\ At w2 b o T (cs.setIfInBounds (o + 1) (.int .u64 (topw 0 C))) (TkV 0 (topw 0 C) sl bh):=hP
 have o2 : Only (L.and b) w w2:=o1.drew.trans hR
 have v2:=(v1.grown ((Below.refl _ _).drew)).only hR (fun hh=>hh.elim hbv hbb)
 have s2 : Same o 4 cs (cs.setIfInBounds (o + 1) (.int .u64 (topw 0 C))):=Same.refl.set (by omega) _
 clear hR o1 v1 m1 i1 hX
 have k0:=i2.cell0 rfl
 have k1:=i2.cell 1 rfl
 have k2:=i2.cell 2 rfl
 have kf:=i2.fz
 go_wp2_with (go_at_call 93;refine (t1 _).mono ?_;rintro e w1 ⟨rfl,rfl⟩)
 have i3:=(i2.set 2 (.int .i64 (-1 : Int))).set0 (.int .i64 1)
 have m3:=(m2.setIn hb (o + 2) (.int .i64 (-1 : Int))).setIn hb o (.int .i64 1)
 have o3:=(o2.set (o + 2) (.int .i64 (-1 : Int))).set o (.int .i64 1)
 have s3:=(s2.set (j:=o + 2) (by omega) (.int .i64 (-1 : Int))).set (j:=o) (by omega) (.int .i64 1)
 refine wp_over (fun W=>MemAt W L _ /\ At W b o T _ (TkV 1 (topw 0 C) (-1 : Int) bh) /\ BoxV W w.heap.size c0 c1 c2 c3 c4 c5 c6 L.p who /\ Only (L.and b) w W) ⟨m3,i3,(v2.setIn hbb _ _).setIn hbb _ _,o3⟩ ?_
 clear m2 i2 o2 v2 s2 k0 k1 k2 kf m3 i3 o3
 rintro W3 ⟨m3,i3,v3,o3⟩
 have e0:=fun N : Later W3=>(v3.grown N.below).c0
 have e1:=fun N : Later W3=>(v3.grown N.below).c1
 have e2:=fun N : Later W3=>(v3.grown N.below).c2
 have e3:=fun N : Later W3=>(v3.grown N.below).c3
 have e4:=fun N : Later W3=>(v3.grown N.below).c4
 have e5:=fun N : Later W3=>(v3.grown N.below).c5
 have e6:=fun N : Later W3=>(v3.grown N.below).c6
 have e7:=fun N : Later W3=>(v3.grown N.below).c7
 have e8:=fun N : Later W3=>(v3.grown N.below).c8
 have e9:=fun N : Later W3=>(i3.grown N.below).cell 2 rfl
 haveI:=Later.exists W3
 refine wp_region_later (by kernel_rfl) (by kernel_rfl) ?_
 repeat (go_big_quiet_step ((go_at_call 106;exact Calls.later (shas_any L _ _ _ _ _ _ _ _ _ _ false (decide_eq_false (by omega))))))
 refine wpQuiet_nil ?_
 rintro _ ⟨nq,rfl⟩
 have i4:=i3.grown nq.below
 have m4:=m3.below nq.below
 have o4 : Only (L.and b) w nq.now:=o3.trans (Only.ofGrown nq.below)
 clear e0 e1 e2 e3 e4 e5 e6 e7 e8 e9 v3 i3 m3 o3
 have k0:=i4.cell0 rfl
 have kf:=i4.fz
 go_wp2
 go_end0
 exact ⟨rfl,_,m4.setIn hb _ _,i4.set0 _,s3.set (j:=o) (by omega) _,o4.set _ _⟩
theorem tstep_some {w : World} {L : Loc} {s : Mm} {b o : Nat} {T : TypeId} {cs : Array Value} {tp sl bh : Int} (h : MemAt w L s) (hb : ¬ L.has b) (hi : At w b o T cs (TkV 0 tp sl bh)) (c0 c1 c2 c3 c4 c5 c6 who : Int) (H C : Nat) (hn : 1 < s.n) (hw : s.wd 1 = topw (H + 1) C) (hC : C <= 1000000) (hH : H <= 65535) (yes : (H : Int) < c1) :
 Calls Tryz.prog 80 #[.pointer (some ⟨b,o,none⟩),.agg #[.int .i64 c0,.int .i64 c1,.int .i64 c2,.int .i64 c3,.int .i64 c4,.int .i64 c5,.int .i64 c6,.pointer (some ⟨L.p,0,none⟩),.int .i64 who]] w fun e w'=>e = .returned (.bool false) /\ ∃ cs',MemAt w' L ((s.by who).step 1 (s.wd 1)) /\ At w' b o T cs' (TkV 1 (topw (H + 1) C) (H : Int) bh) /\ Same o 4 cs cs' /\ Only (L.and b) w w':=by
 have k0:=hi.cell0 rfl
 have m1:=h.alloc (.cells #[.int .i64 c0,.int .i64 c1,.int .i64 c2,.int .i64 c3,.int .i64 c4,.int .i64 c5,.int .i64 c6,.pointer (some ⟨L.p,0,none⟩),.int .i64 who] 27)
 have i1:=hi.grown (grow_alloc (Below.refl _ _) (.cells #[.int .i64 c0,.int .i64 c1,.int .i64 c2,.int .i64 c3,.int .i64 c4,.int .i64 c5,.int .i64 c6,.pointer (some ⟨L.p,0,none⟩),.int .i64 who] 27))
 have o1 : Only (L.and b) w (w.alloc (.cells #[.int .i64 c0,.int .i64 c1,.int .i64 c2,.int .i64 c3,.int .i64 c4,.int .i64 c5,.int .i64 c6,.pointer (some ⟨L.p,0,none⟩),.int .i64 who] 27)):=(Only.refl _ _).alloc _
 have k1:=i1.cell0 rfl
 go_enter Tryz.func80,Tryz.ntmps80
 go_wp2_with (go_at_call 92;refine (tload_yes m1 hb i1 _ _ _ _ _ _ _ _ H C hn hw hC hH yes).mono ?_;rintro e w2 ⟨rfl,cs',m2,i2,s2,o2⟩;have k2:=i2.cell0 rfl)
 go_ret
 exact ⟨rfl,cs',m2,i2,s2,o1.trans o2⟩
theorem tstep_none {w : World} {L : Loc} {s : Mm} {b o : Nat} {T : TypeId} {cs : Array Value} {tp sl bh : Int} (h : MemAt w L s) (hb : ¬ L.has b) (hi : At w b o T cs (TkV 0 tp sl bh)) (c0 c1 c2 c3 c4 c5 c6 who : Int) (C : Nat) (hn : 1 < s.n) (hw : s.wd 1 = topw 0 C) (hC : C <= 1000000)  :
 Calls Tryz.prog 80 #[.pointer (some ⟨b,o,none⟩),.agg #[.int .i64 c0,.int .i64 c1,.int .i64 c2,.int .i64 c3,.int .i64 c4,.int .i64 c5,.int .i64 c6,.pointer (some ⟨L.p,0,none⟩),.int .i64 who]] w fun e w'=>e = .returned (.bool true) /\ ∃ cs',MemAt w' L ((s.by who).step 1 (s.wd 1)) /\ At w' b o T cs' (TkV 4 (topw 0 C) (-1 : Int) bh) /\ Same o 4 cs cs' /\ Only (L.and b) w w':=by
 have k0:=hi.cell0 rfl
 have m1:=h.alloc (.cells #[.int .i64 c0,.int .i64 c1,.int .i64 c2,.int .i64 c3,.int .i64 c4,.int .i64 c5,.int .i64 c6,.pointer (some ⟨L.p,0,none⟩),.int .i64 who] 27)
 have i1:=hi.grown (grow_alloc (Below.refl _ _) (.cells #[.int .i64 c0,.int .i64 c1,.int .i64 c2,.int .i64 c3,.int .i64 c4,.int .i64 c5,.int .i64 c6,.pointer (some ⟨L.p,0,none⟩),.int .i64 who] 27))
 have o1 : Only (L.and b) w (w.alloc (.cells #[.int .i64 c0,.int .i64 c1,.int .i64 c2,.int .i64 c3,.int .i64 c4,.int .i64 c5,.int .i64 c6,.pointer (some ⟨L.p,0,none⟩),.int .i64 who] 27)):=(Only.refl _ _).alloc _
 have k1:=i1.cell0 rfl
 go_enter Tryz.func80,Tryz.ntmps80
 go_wp2_with (go_at_call 92;refine (tload_no m1 hb i1 _ _ _ _ _ _ _ _ C hn hw hC).mono ?_;rintro e w2 ⟨rfl,cs',m2,i2,s2,o2⟩;have k2:=i2.cell0 rfl)
 go_ret
 exact ⟨rfl,cs',m2,i2,s2,o1.trans o2⟩
theorem tstep_link {w : World} {L : Loc} {s : Mm} {b o : Nat} {T : TypeId} {cs : Array Value} {tp bh : Int} (h : MemAt w L s) (hb : ¬ L.has b) {sl : Nat} (hi : At w b o T cs (TkV 1 tp sl bh)) (c0 c1 c2 c3 c4 c5 c6 who : Int) (Q A : Nat) (hA : (6 : Int) + c0 + (sl : Int) * 2 + 1 = A) (ht0 : 0 <= c0) (ht8 : c0 <= 8) (hs : sl <= 65535) (hn : A < s.n) (hw : s.wd A = topw Q 0) (hQ : Q <= 65536) :
 Calls Tryz.prog 80 #[.pointer (some ⟨b,o,none⟩),.agg #[.int .i64 c0,.int .i64 c1,.int .i64 c2,.int .i64 c3,.int .i64 c4,.int .i64 c5,.int .i64 c6,.pointer (some ⟨L.p,0,none⟩),.int .i64 who]] w fun e w'=>e = .returned (.bool false) /\ ∃ cs',MemAt w' L ((s.by who).step A (s.wd A)) /\ At w' b o T cs' (TkV 2 tp sl ((Q : Int) - 1)) /\ Same o 4 cs cs' /\ Only (L.and b) w w':=by
 have hbv : ¬ L.has w.heap.size:=fun hh=>by have:=h.lt _ hh;omega
 have hbb : ¬ w.heap.size = b:=fun hh=>by have:=hi.lt;omega
 have k0:=fun O=>alloc_cell (hi.cell0 rfl) O
 have HA : Hid ((6 : Int) + c0 + (sl : Int) * 2 + 1 = A):=hA
 clear hA
 obtain ⟨X,hX⟩ : ∃ X,s.wd A = X:=⟨_,rfl⟩
 rw [hX] at hw ⊢
 have HX : Hid (s.wd A = topw Q 0):=hX.trans hw
 subst hw
 clear hX
 go_enter Tryz.func80,Tryz.ntmps80
 go_wp2
 refine wp_over (fun W=>MemAt W L s /\ At W b o T cs (TkV 1 tp sl bh) /\ BoxV W w.heap.size c0 c1 c2 c3 c4 c5 c6 L.p who /\ Only (L.and b) w W) ⟨h.alloc _,hi.grown (grow_alloc (Below.refl _ _) _),BoxV.new,(Only.refl _ _).alloc _⟩ ?_
 rintro W ⟨m1,i1,v1,o1⟩
 refine wp_region_phase (OnlyBut L b (o + 3)) Grown (phAt L b o T cs (cs.setIfInBounds (o + 3) (.int .i64 ((Q : Int) - 1))) s ((s.by who).step A (topw Q 0)) (TkV 1 tp sl bh) (TkV 1 tp sl ((Q : Int) - 1))) [8,15] [.val (.pointer (some ⟨b,o,none⟩)),.val (.agg #[.int .i64 c0,.int .i64 c1,.int .i64 c2,.int .i64 c3,.int .i64 c4,.int .i64 c5,.int .i64 c6,.pointer (some ⟨L.p,0,none⟩),.int .i64 who]),.val (.agg #[.int .i64 c0,.int .i64 c1,.int .i64 c2,.int .i64 c3,.int .i64 c4,.int .i64 c5,.int .i64 c6,.pointer (some ⟨L.p,0,none⟩),.int .i64 who]),.val (.pointer (some ⟨b,o,none⟩)),.val (.pointer (some ⟨b,o,none⟩)),.val (.pointer (some ⟨b,o + 2,none⟩)),.val (.int .i64 sl),.val (.int .i64 A),.val (.int .u64 (topw Q 0)),.val (.tuple #[.int .i64 ((Q : Int) - 1),.int .i64 0]),.val (.tuple #[.int .i64 ((Q : Int) - 1),.int .i64 0]),.val (.int .i64 ((Q : Int) - 1)),.val (.int .i64 0),.val (.pointer (some ⟨b,o,none⟩)),.val (.pointer (some ⟨b,o + 3,none⟩)),.that (fun _ _=>True) (fun _ _ _ _ _=>trivial)]
  (by kernel_rfl) OnlyBut.refl OnlyBut.trans OnlyBut.ofGrown phAt_grown ⟨m1.drew,i1.drew⟩ (by kernel_rfl) (by kernel_rfl) (by kernel_rfl) (by kernel_rfl) (by kernel_rfl) ?_
 simp only [phaseAll,Act.put,List.setIfInBounds_toArray,List.set_cons_zero,List.set_cons_succ]
 refine ⟨?_,?_,?_,?_,?_,?_,?_,?_,?_,?_,?_,?_,?_,?_,?_,?_,?_⟩
 · intros;apply ol;go_simp;exact gl
 · intro w' hR _
   apply ol
   obtain ⟨y0,y1,y2,y3,y4,y5,y6,y7,y8⟩:=(v1.grown ((Below.refl _ _).drew)).only hR.only (fun hh=>hh.elim hbv hbb)
   go_simp
   exact gl
 · intro w' hR _
   apply ol
   obtain ⟨y0,y1,y2,y3,y4,y5,y6,y7,y8⟩:=(v1.grown ((Below.refl _ _).drew)).only hR.only (fun hh=>hh.elim hbv hbb)
   go_simp
   exact gl
 · intros;apply ol;go_simp;exact gl
 · intros;apply ol;go_simp;exact gl
 · intros;apply ol;go_simp;exact gl
 · intro w' hR _
   apply ol
   have z:=hR.keep (j:=o + 2) (by omega) (i1.drew.cell 2 rfl)
   go_simp
   exact gl
 · intro w' hR _
   apply ol
   go_simp
   refine (slink_any L _ _ _ _ _ _ _ _ _ _ ⟨ht0,ht8⟩ (by omega)).mono ?_
   rintro e w'' ⟨rfl,b9⟩
   exact ⟨_,rfl,b9,by rw [HA.out];rfl⟩
 · intro w' hR _ hP
   apply ol
   go_simp
   refine (eload_in (s:=s) hP.1 _ _ _ _ _ _ _ _ A hn).mono ?_
   rintro e w'' ⟨rfl,m2,o2⟩
   rw [HX.out] at m2
   exact ⟨_,rfl,⟨OnlyBut.ofOnly o2 hb,m2,hP.2.only o2 hb⟩,by simp [Want.pred,HX.out]⟩
 · intro w' hR _
   apply ol
   go_simp
   refine (top_w Q 0 _ hQ (by omega)).mono ?_
   rintro e w'' ⟨rfl,rfl⟩
   exact ⟨_,rfl,Grown.refl _,rfl⟩
 · intros;apply ol;go_simp;exact gl
 · intros;apply ol;go_simp;exact gl
 · intros;apply ol;go_simp;exact gl
 · intros;apply ol;go_simp;exact gl
 · intros;apply ol;go_simp;exact gl
 · intro w' hR _ hP
   apply ol
   have z0:=hP.2.cell 3 rfl
   have z1:=hP.2.fz
   go_simp
   exact ⟨⟨OnlyBut.set _ _,hP.1.setIn hb _ _,hP.2.set 3 _⟩,trivial⟩
 intro v w2 hR hP _
 obtain ⟨m2,i2⟩ : MemAt w2 L ((s.by who).step A (topw Q 0)) /\ At w2 b o T (cs.setIfInBounds (o + 3) (.int .i64 ((Q : Int) - 1))) (TkV 1 tp sl ((Q : Int) - 1)):=hP
 have o2 : Only (L.and b) w w2:=o1.drew.trans hR.only
 have s2 : Same o 4 cs (cs.setIfInBounds (o + 3) (.int .i64 ((Q : Int) - 1))):=Same.refl.set (by omega) _
 clear hR o1 v1 m1 i1 k0 HX HA
 have k0:=i2.cell0 rfl
 have kf:=i2.fz
 go_wp2
 go_ret
 exact ⟨rfl,_,m2.setIn hb _ _,i2.set0 _,s2.set (j:=o) (by omega) _,o2.set _ _⟩
theorem tstep_yes {w : World} {L : Loc} {s : Mm} {b o : Nat} {T : TypeId} {cs : Array Value} {sl : Int} (h : MemAt w L s) (hb : ¬ L.has b) (H C Q : Nat) (hi : At w b o T cs (TkV 2 (topw H C) sl ((Q : Int) - 1))) (c0 c1 c2 c3 c4 c5 c6 who : Int) (hn : 1 < s.n) (hH : H <= 65536) (hC : C <= 1000000) (hQ : Q <= 65536) (yes : s.wd 1 = topw H C) :
 Calls Tryz.prog 80 #[.pointer (some ⟨b,o,none⟩),.agg #[.int .i64 c0,.int .i64 c1,.int .i64 c2,.int .i64 c3,.int .i64 c4,.int .i64 c5,.int .i64 c6,.pointer (some ⟨L.p,0,none⟩),.int .i64 who]] w fun e w'=>e = .returned (.bool true) /\ ∃ cs',MemAt w' L ((s.by who).step 1 (topw Q (C + 1))) /\ At w' b o T cs' (TkV 3 (topw H C) sl ((Q : Int) - 1)) /\ Same o 4 cs cs' /\ Only (L.and b) w w':=by
 have hbv : ¬ L.has w.heap.size:=fun hh=>by have:=h.lt _ hh;omega
 have hbb : ¬ w.heap.size = b:=fun hh=>by have:=hi.lt;omega
 have k0:=fun O=>alloc_cell (hi.cell0 rfl) O
 have HW : Hid (s.wd 1 = topw H C):=yes
 clear yes
 go_enter Tryz.func80,Tryz.ntmps80
 go_wp2
 refine wp_over (fun W=>MemAt W L s /\ At W b o T cs (TkV 2 (topw H C) sl ((Q : Int) - 1)) /\ BoxV W w.heap.size c0 c1 c2 c3 c4 c5 c6 L.p who /\ Only (L.and b) w W) ⟨h.alloc _,hi.grown (grow_alloc (Below.refl _ _) _),BoxV.new,(Only.refl _ _).alloc _⟩ ?_
 rintro W ⟨m1,i1,v1,o1⟩
 refine wp_region_phase (OnlyBut L b o) Grown (phAt L b o T cs (cs.setIfInBounds o (.int .i64 3)) s ((s.by who).step 1 (topw Q (C + 1))) (TkV 2 (topw H C) sl ((Q : Int) - 1)) (TkV 3 (topw H C) sl ((Q : Int) - 1))) [10,13] [.val (.pointer (some ⟨b,o,none⟩)),.val (.agg #[.int .i64 c0,.int .i64 c1,.int .i64 c2,.int .i64 c3,.int .i64 c4,.int .i64 c5,.int .i64 c6,.pointer (some ⟨L.p,0,none⟩),.int .i64 who]),.val (.pointer (some ⟨b,o,none⟩)),.val (.pointer (some ⟨b,o,none⟩)),.val (.pointer (some ⟨b,o + 1,none⟩)),.val (.int .u64 (topw H C)),.val (.pointer (some ⟨b,o,none⟩)),.val (.pointer (some ⟨b,o,none⟩)),.val (.pointer (some ⟨b,o + 3,none⟩)),.val (.int .i64 ((Q : Int) - 1)),.val (.int .i64 3),.val (.pointer (some ⟨b,o,none⟩)),.val (.pointer (some ⟨b,o,none⟩)),.that (fun _ _=>True) (fun _ _ _ _ _=>trivial)]
  (by kernel_rfl) OnlyBut.refl OnlyBut.trans OnlyBut.ofGrown phAt_grown ⟨m1.drew,i1.drew⟩ (by kernel_rfl) (by kernel_rfl) (by kernel_rfl) (by kernel_rfl) (by kernel_rfl) ?_
 simp only [phaseAll,Act.put,List.setIfInBounds_toArray,List.set_cons_zero,List.set_cons_succ]
 refine ⟨?_,?_,?_,?_,?_,?_,?_,?_,?_,?_,?_,?_,?_,?_,?_⟩
 · intros;apply ol;go_simp;exact gl
 · intro w' hR _
   apply ol
   obtain ⟨y0,y1,y2,y3,y4,y5,y6,y7,y8⟩:=(v1.grown ((Below.refl _ _).drew)).only hR.only (fun hh=>hh.elim hbv hbb)
   go_simp
   exact gl
 · intros;apply ol;go_simp;exact gl
 · intros;apply ol;go_simp;exact gl
 · intros;apply ol;go_simp;exact gl
 · intro w' hR _
   apply ol
   have z:=hR.keep (j:=o + 1) (by omega) (i1.drew.cell 1 rfl)
   go_simp
   exact gl
 · intros;apply ol;go_simp;exact gl
 · intros;apply ol;go_simp;exact gl
 · intros;apply ol;go_simp;exact gl
 · intro w' hR _
   apply ol
   have z:=hR.keep (j:=o + 3) (by omega) (i1.drew.cell 3 rfl)
   go_simp
   exact gl
 · intro w' hR _ hP
   apply ol
   go_simp
   refine (swap_yes (s:=s) hP.1 _ _ _ _ _ _ _ _ H C Q hn hH hC hQ HW.out).mono ?_
   rintro e w'' ⟨rfl,m2,o2⟩
   exact ⟨_,rfl,⟨OnlyBut.ofOnly o2 hb,m2,hP.2.only o2 hb⟩,rfl⟩
 · intros;apply ol;go_simp;exact gl
 · intros;apply ol;go_simp;exact gl
 · intro w' hR _ hP
   apply ol
   have z0:=hP.2.cell0 rfl
   have z1:=hP.2.fz
   go_simp
   exact ⟨⟨OnlyBut.set _ _,hP.1.setIn hb _ _,hP.2.set0 _⟩,trivial⟩
 intro v w2 hR hP _
 obtain ⟨m2,i2⟩ : MemAt w2 L ((s.by who).step 1 (topw Q (C + 1))) /\ At w2 b o T (cs.setIfInBounds o (.int .i64 3)) (TkV 3 (topw H C) sl ((Q : Int) - 1)):=hP
 have o2 : Only (L.and b) w w2:=o1.drew.trans hR.only
 have s2 : Same o 4 cs (cs.setIfInBounds o (.int .i64 3)):=Same.refl.set (by omega) _
 clear hR o1 v1 m1 i1 k0 HW
 have k0:=i2.cell0 rfl
 have kf:=i2.fz
 go_wp2
 go_ret
 exact ⟨rfl,_,m2,i2,s2,o2⟩
theorem tstep_no {w : World} {L : Loc} {s : Mm} {b o : Nat} {T : TypeId} {cs : Array Value} {sl : Int} (h : MemAt w L s) (hb : ¬ L.has b) (H C Q : Nat) (hi : At w b o T cs (TkV 2 (topw H C) sl ((Q : Int) - 1))) (c0 c1 c2 c3 c4 c5 c6 who : Int) (hn : 1 < s.n) (hH : H <= 65536) (hC : C <= 1000000) (hQ : Q <= 65536) (no : ¬ s.wd 1 = topw H C) :
 Calls Tryz.prog 80 #[.pointer (some ⟨b,o,none⟩),.agg #[.int .i64 c0,.int .i64 c1,.int .i64 c2,.int .i64 c3,.int .i64 c4,.int .i64 c5,.int .i64 c6,.pointer (some ⟨L.p,0,none⟩),.int .i64 who]] w fun e w'=>e = .returned (.bool false) /\ ∃ cs',MemAt w' L ((s.by who).step 1 (s.wd 1)) /\ At w' b o T cs' (TkV 0 (topw H C) sl ((Q : Int) - 1)) /\ Same o 4 cs cs' /\ Only (L.and b) w w':=by
 have hbv : ¬ L.has w.heap.size:=fun hh=>by have:=h.lt _ hh;omega
 have hbb : ¬ w.heap.size = b:=fun hh=>by have:=hi.lt;omega
 have k0:=fun O=>alloc_cell (hi.cell0 rfl) O
 have HW : Hid (¬ s.wd 1 = topw H C):=no
 clear no
 go_enter Tryz.func80,Tryz.ntmps80
 go_wp2
 refine wp_over (fun W=>MemAt W L s /\ At W b o T cs (TkV 2 (topw H C) sl ((Q : Int) - 1)) /\ BoxV W w.heap.size c0 c1 c2 c3 c4 c5 c6 L.p who /\ Only (L.and b) w W) ⟨h.alloc _,hi.grown (grow_alloc (Below.refl _ _) _),BoxV.new,(Only.refl _ _).alloc _⟩ ?_
 rintro W ⟨m1,i1,v1,o1⟩
 refine wp_region_phase (OnlyBut L b o) Grown (phAt L b o T cs (cs.setIfInBounds o (.int .i64 0)) s ((s.by who).step 1 (s.wd 1)) (TkV 2 (topw H C) sl ((Q : Int) - 1)) (TkV 0 (topw H C) sl ((Q : Int) - 1))) [10,13] [.val (.pointer (some ⟨b,o,none⟩)),.val (.agg #[.int .i64 c0,.int .i64 c1,.int .i64 c2,.int .i64 c3,.int .i64 c4,.int .i64 c5,.int .i64 c6,.pointer (some ⟨L.p,0,none⟩),.int .i64 who]),.val (.pointer (some ⟨b,o,none⟩)),.val (.pointer (some ⟨b,o,none⟩)),.val (.pointer (some ⟨b,o + 1,none⟩)),.val (.int .u64 (topw H C)),.val (.pointer (some ⟨b,o,none⟩)),.val (.pointer (some ⟨b,o,none⟩)),.val (.pointer (some ⟨b,o + 3,none⟩)),.val (.int .i64 ((Q : Int) - 1)),.val (.int .i64 0),.val (.pointer (some ⟨b,o,none⟩)),.val (.pointer (some ⟨b,o,none⟩)),.that (fun _ _=>True) (fun _ _ _ _ _=>trivial)]
  (by kernel_rfl) OnlyBut.refl OnlyBut.trans OnlyBut.ofGrown phAt_grown ⟨m1.drew,i1.drew⟩ (by kernel_rfl) (by kernel_rfl) (by kernel_rfl) (by kernel_rfl) (by kernel_rfl) ?_
 simp only [phaseAll,Act.put,List.setIfInBounds_toArray,List.set_cons_zero,List.set_cons_succ]
 refine ⟨?_,?_,?_,?_,?_,?_,?_,?_,?_,?_,?_,?_,?_,?_,?_⟩
 · intros;apply ol;go_simp;exact gl
 · intro w' hR _
   apply ol
   obtain ⟨y0,y1,y2,y3,y4,y5,y6,y7,y8⟩:=(v1.grown ((Below.refl _ _).drew)).only hR.only (fun hh=>hh.elim hbv hbb)
   go_simp
   exact gl
 · intros;apply ol;go_simp;exact gl
 · intros;apply ol;go_simp;exact gl
 · intros;apply ol;go_simp;exact gl
 · intro w' hR _
   apply ol
   have z:=hR.keep (j:=o + 1) (by omega) (i1.drew.cell 1 rfl)
   go_simp
   exact gl
 · intros;apply ol;go_simp;exact gl
 · intros;apply ol;go_simp;exact gl
 · intros;apply ol;go_simp;exact gl
 · intro w' hR _
   apply ol
   have z:=hR.keep (j:=o + 3) (by omega) (i1.drew.cell 3 rfl)
   go_simp
   exact gl
 · intro w' hR _ hP
   apply ol
   go_simp
   refine (swap_no (s:=s) hP.1 _ _ _ _ _ _ _ _ H C Q hn hH hC hQ HW.out).mono ?_
   rintro e w'' ⟨rfl,m2,o2⟩
   exact ⟨_,rfl,⟨OnlyBut.ofOnly o2 hb,m2,hP.2.only o2 hb⟩,rfl⟩
 · intros;apply ol;go_simp;exact gl
 · intros;apply ol;go_simp;exact gl
 · intro w' hR _ hP
   apply ol
   have z0:=hP.2.cell0 rfl
   have z1:=hP.2.fz
   go_simp
   exact ⟨⟨OnlyBut.set _ _,hP.1.setIn hb _ _,hP.2.set0 _⟩,trivial⟩
 intro v w2 hR hP _
 obtain ⟨m2,i2⟩ : MemAt w2 L ((s.by who).step 1 (s.wd 1)) /\ At w2 b o T (cs.setIfInBounds o (.int .i64 0)) (TkV 0 (topw H C) sl ((Q : Int) - 1)):=hP
 have o2 : Only (L.and b) w w2:=o1.drew.trans hR.only
 have s2 : Same o 4 cs (cs.setIfInBounds o (.int .i64 0)):=Same.refl.set (by omega) _
 clear hR o1 v1 m1 i1 k0 HW
 have k0:=i2.cell0 rfl
 have kf:=i2.fz
 go_wp2
 go_ret
 exact ⟨rfl,_,m2,i2,s2,o2⟩
theorem gstep_load {w : World} {L : Loc} {s : Mm} {b o : Nat} {T : TypeId} {cs : Array Value} {tp : Int} {sl : Nat} (h : MemAt w L s) (hb : ¬ L.has b) (hi : At w b o T cs (GvV 0 sl tp)) (c0 c1 c2 c3 c4 c5 c6 who : Int) (H C : Nat) (hn : 1 < s.n) (hsl : (sl : Int) < c1) (hw : s.wd 1 = topw H C) :
 Calls Tryz.prog 91 #[.pointer (some ⟨b,o,none⟩),.agg #[.int .i64 c0,.int .i64 c1,.int .i64 c2,.int .i64 c3,.int .i64 c4,.int .i64 c5,.int .i64 c6,.pointer (some ⟨L.p,0,none⟩),.int .i64 who]] w fun e w'=>e = .returned (.bool false) /\ ∃ cs',MemAt w' L ((s.by who).step 1 (s.wd 1)) /\ At w' b o T cs' (GvV 1 sl (topw H C)) /\ Same o 3 cs cs' /\ Only (L.and b) w w':=by
 have hn1 : decide ((s.n : Int) <= 1) = false:=decide_eq_false (by omega)
 have hbv : ¬ L.has w.heap.size:=fun hh=>by have:=h.lt _ hh;omega
 have hbb : ¬ w.heap.size = b:=fun hh=>by have:=hi.lt;omega
 obtain ⟨X,hX⟩ : ∃ X,s.wd 1 = X:=⟨_,rfl⟩
 rw [hX] at hw ⊢
 have HX : Hid (s.wd 1 = topw H C):=hX.trans hw
 subst hw
 clear hX
 go_enter Tryz.func91,Tryz.ntmps91
 go_wp2
 refine wp_over (fun W=>MemAt W L s /\ At W b o T cs (GvV 0 sl tp) /\ BoxV W w.heap.size c0 c1 c2 c3 c4 c5 c6 L.p who /\ Only (L.and b) w W) ⟨h.alloc _,hi.grown (grow_alloc (Below.refl _ _) _),BoxV.new,(Only.refl _ _).alloc _⟩ ?_
 rintro W ⟨m1,i1,v1,o1⟩
 have e0:=fun N : Later W=>(v1.grown N.below).c0
 have e1:=fun N : Later W=>(v1.grown N.below).c1
 have e2:=fun N : Later W=>(v1.grown N.below).c2
 have e3:=fun N : Later W=>(v1.grown N.below).c3
 have e4:=fun N : Later W=>(v1.grown N.below).c4
 have e5:=fun N : Later W=>(v1.grown N.below).c5
 have e6:=fun N : Later W=>(v1.grown N.below).c6
 have e7:=fun N : Later W=>(v1.grown N.below).c7
 have e8:=fun N : Later W=>(v1.grown N.below).c8
 have e9:=fun N : Later W=>(i1.grown N.below).cell 1 rfl
 have hm:=fun N : Later W=>m1.below N.below
 haveI:=Later.exists W
 refine wp_region_later (by kernel_rfl) (by kernel_rfl) ?_
 repeat (go_big_quiet_step ((first
  | (go_at_call 106;exact Calls.later (shas_any L _ _ _ _ _ _ _ _ _ _ true (decide_eq_true ⟨by omega,by omega⟩)))
  | (go_at_call 30;exact Calls.later_same (ltop_any _))
  | (go_at_call 105;exact Calls.later_same (len_any (hm _))))))
 refine wpQuiet_nil ?_
 rintro _ ⟨nq,rfl⟩
 clear e0 e1 e2 e3 e4 e5 e6 e7 e8 e9 hm hn1
 have i2:=i1.grown nq.below
 have m2:=m1.below nq.below
 have v2:=v1.grown nq.below
 have o2 : Only (L.and b) w nq.now:=o1.trans (Only.ofGrown nq.below)
 have k0:=i2.cell0 rfl
 have k2:=i2.cell 2 rfl
 have kf:=i2.fz
 clear m1 i1 v1 o1
 go_wp2
 refine wp_over (fun W=>MemAt W L s /\ At W b o T cs (GvV 0 sl tp) /\ BoxV W w.heap.size c0 c1 c2 c3 c4 c5 c6 L.p who /\ Only (L.and b) w W) ⟨m2,i2,v2,o2⟩ ?_
 clear m2 i2 v2 o2 k0 k2 kf
 rintro W ⟨m1,i1,v1,o1⟩
 refine wp_region_phase (OnlyBut L b (o + 2)) Grown (phAt L b o T cs (cs.setIfInBounds (o + 2) (.int .u64 (topw H C))) s ((s.by who).step 1 (topw H C)) (GvV 0 sl tp) (GvV 0 sl (topw H C))) [3,6] [.val (.pointer (some ⟨b,o,none⟩)),.val (.agg #[.int .i64 c0,.int .i64 c1,.int .i64 c2,.int .i64 c3,.int .i64 c4,.int .i64 c5,.int .i64 c6,.pointer (some ⟨L.p,0,none⟩),.int .i64 who]),.val (.int .i64 1),.val (.int .u64 (topw H C)),.val (.pointer (some ⟨b,o,none⟩)),.val (.pointer (some ⟨b,o + 2,none⟩)),.that (fun _ _=>True) (fun _ _ _ _ _=>trivial)]
  (by kernel_rfl) OnlyBut.refl OnlyBut.trans OnlyBut.ofGrown phAt_grown ⟨m1.drew,i1.drew⟩ (by kernel_rfl) (by kernel_rfl) (by kernel_rfl) (by kernel_rfl) (by kernel_rfl) ?_
 simp only [phaseAll,Act.put,List.setIfInBounds_toArray,List.set_cons_zero,List.set_cons_succ]
 refine ⟨?_,?_,?_,?_,?_,?_,?_,?_⟩
 · intros;apply ol;go_simp;exact gl
 · intro w' hR _
   apply ol
   obtain ⟨y0,y1,y2,y3,y4,y5,y6,y7,y8⟩:=(v1.grown ((Below.refl _ _).drew)).only hR.only (fun hh=>hh.elim hbv hbb)
   go_simp
   exact gl
 · intro w' hR _
   apply ol
   go_simp
   refine (ltop_any _).mono ?_
   rintro e w'' ⟨rfl,rfl⟩
   exact ⟨_,rfl,Grown.refl _,rfl⟩
 · intro w' hR _ hP
   apply ol
   go_simp
   refine (eload_in (s:=s) hP.1 _ _ _ _ _ _ _ _ 1 hn).mono ?_
   rintro e w'' ⟨rfl,m2,o2⟩
   rw [HX.out] at m2
   exact ⟨_,rfl,⟨OnlyBut.ofOnly o2 hb,m2,hP.2.only o2 hb⟩,by simp [Want.pred,HX.out]⟩
 · intros;apply ol;go_simp;exact gl
 · intros;apply ol;go_simp;exact gl
 · intro w' hR _ hP
   apply ol
   have z0:=hP.2.cell 2 rfl
   have z1:=hP.2.fz
   go_simp
   exact ⟨⟨OnlyBut.set _ _,hP.1.setIn hb _ _,hP.2.set 2 _⟩,trivial⟩
 intro v w2 hR hP _
 obtain ⟨m2,i2⟩ : MemAt w2 L ((s.by who).step 1 (topw H C)) /\ At w2 b o T (cs.setIfInBounds (o + 2) (.int .u64 (topw H C))) (GvV 0 sl (topw H C)):=hP
 have o2 : Only (L.and b) w w2:=o1.drew.trans hR.only
 have s2 : Same o 3 cs (cs.setIfInBounds (o + 2) (.int .u64 (topw H C))):=Same.refl.set (by omega) _
 clear hR o1 v1 m1 i1 HX
 have k0:=i2.cell0 rfl
 have kf:=i2.fz
 go_wp2
 go_ret
 exact ⟨rfl,_,m2.setIn hb _ _,i2.set0 _,s2.set (j:=o) (by omega) _,o2.set _ _⟩
theorem gstep_lay {w : World} {L : Loc} {s : Mm} {b o : Nat} {T : TypeId} {cs : Array Value} {sl : Nat} (h : MemAt w L s) (hb : ¬ L.has b) (H C A : Nat) (hi : At w b o T cs (GvV 1 sl (topw H C))) (c0 c1 c2 c3 c4 c5 c6 who : Int) (hA : (6 : Int) + c0 + (sl : Int) * 2 + 1 = A) (ht0 : 0 <= c0) (ht8 : c0 <= 8) (hs : sl <= 65535) (hn : A < s.n) (hsl : (sl : Int) < c1) (hH : H <= 65536) (hC : C <= 1000000) :
 Calls Tryz.prog 91 #[.pointer (some ⟨b,o,none⟩),.agg #[.int .i64 c0,.int .i64 c1,.int .i64 c2,.int .i64 c3,.int .i64 c4,.int .i64 c5,.int .i64 c6,.pointer (some ⟨L.p,0,none⟩),.int .i64 who]] w fun e w'=>e = .returned (.bool false) /\ ∃ cs',MemAt w' L ((s.by who).step A (topw H 0)) /\ At w' b o T cs' (GvV 2 sl (topw H C)) /\ Same o 3 cs cs' /\ Only (L.and b) w w':=by
 have hn1 : decide ((s.n : Int) <= 1) = false:=decide_eq_false (by omega)
 have hbv : ¬ L.has w.heap.size:=fun hh=>by have:=h.lt _ hh;omega
 have hbb : ¬ w.heap.size = b:=fun hh=>by have:=hi.lt;omega
 have HA : Hid ((6 : Int) + c0 + (sl : Int) * 2 + 1 = A):=hA
 clear hA
 go_enter Tryz.func91,Tryz.ntmps91
 go_wp2
 refine wp_over (fun W=>MemAt W L s /\ At W b o T cs (GvV 1 sl (topw H C)) /\ BoxV W w.heap.size c0 c1 c2 c3 c4 c5 c6 L.p who /\ Only (L.and b) w W) ⟨h.alloc _,hi.grown (grow_alloc (Below.refl _ _) _),BoxV.new,(Only.refl _ _).alloc _⟩ ?_
 rintro W ⟨m1,i1,v1,o1⟩
 have e0:=fun N : Later W=>(v1.grown N.below).c0
 have e1:=fun N : Later W=>(v1.grown N.below).c1
 have e2:=fun N : Later W=>(v1.grown N.below).c2
 have e3:=fun N : Later W=>(v1.grown N.below).c3
 have e4:=fun N : Later W=>(v1.grown N.below).c4
 have e5:=fun N : Later W=>(v1.grown N.below).c5
 have e6:=fun N : Later W=>(v1.grown N.below).c6
 have e7:=fun N : Later W=>(v1.grown N.below).c7
 have e8:=fun N : Later W=>(v1.grown N.below).c8
 have e9:=fun N : Later W=>(i1.grown N.below).cell 1 rfl
 have hm:=fun N : Later W=>m1.below N.below
 haveI:=Later.exists W
 refine wp_region_later (by kernel_rfl) (by kernel_rfl) ?_
 repeat (go_big_quiet_step ((first
  | (go_at_call 106;exact Calls.later (shas_any L _ _ _ _ _ _ _ _ _ _ true (decide_eq_true ⟨by omega,by omega⟩)))
  | (go_at_call 30;exact Calls.later_same (ltop_any _))
  | (go_at_call 105;exact Calls.later_same (len_any (hm _))))))
 refine wpQuiet_nil ?_
 rintro _ ⟨nq,rfl⟩
 clear e0 e1 e2 e3 e4 e5 e6 e7 e8 e9 hm hn1
 have i2:=i1.grown nq.below
 have m2:=m1.below nq.below
 have v2:=v1.grown nq.below
 have o2 : Only (L.and b) w nq.now:=o1.trans (Only.ofGrown nq.below)
 have k0:=i2.cell0 rfl
 have k2:=i2.cell 2 rfl
 have kf:=i2.fz
 clear m1 i1 v1 o1
 go_wp2_with (go_at_call 93;refine (top_w H C _ hH (by omega)).mono ?_;rintro e w1 ⟨rfl,rfl⟩)
 refine wp_over (fun W=>MemAt W L s /\ At W b o T cs (GvV 1 sl (topw H C)) /\ BoxV W w.heap.size c0 c1 c2 c3 c4 c5 c6 L.p who /\ Only (L.and b) w W) ⟨m2,i2,v2,o2⟩ ?_
 clear m2 i2 v2 o2 k0 k2 kf
 rintro W ⟨m1,i1,v1,o1⟩
 refine wp_region_phase (Only L.has) Grown (fun p W'=>match p with | 0=>MemAt W' L s | _=>MemAt W' L ((s.by who).step A (topw H 0))) [9] [.val (.agg #[.int .i64 c0,.int .i64 c1,.int .i64 c2,.int .i64 c3,.int .i64 c4,.int .i64 c5,.int .i64 c6,.pointer (some ⟨L.p,0,none⟩),.int .i64 who]),.val (.agg #[.int .i64 c0,.int .i64 c1,.int .i64 c2,.int .i64 c3,.int .i64 c4,.int .i64 c5,.int .i64 c6,.pointer (some ⟨L.p,0,none⟩),.int .i64 who]),.val (.pointer (some ⟨b,o,none⟩)),.val (.pointer (some ⟨b,o,none⟩)),.val (.pointer (some ⟨b,o + 1,none⟩)),.val (.int .i64 sl),.val (.int .i64 A),.val (.int .i64 ((H : Int) - 1)),.val (.int .u64 (topw H 0)),.that (fun _ _=>True) (fun _ _ _ _ _=>trivial)]
  (by kernel_rfl) (Only.refl _) (fun _ _ _ h k=>h.trans k) (fun x y h=>Only.ofGrown h) (fun x y p h k=>by match p,k with | 0,k=>exact k.below h | p + 1,k=>exact k.below h) m1.drew (by kernel_rfl) (by kernel_rfl) (by kernel_rfl) (by kernel_rfl) (by kernel_rfl) ?_
 simp only [phaseAll,Act.put,List.setIfInBounds_toArray,List.set_cons_zero,List.set_cons_succ]
 refine ⟨?_,?_,?_,?_,?_,?_,?_,?_,?_,?_,?_⟩
 · intro w' hR _
   apply ol
   obtain ⟨y0,y1,y2,y3,y4,y5,y6,y7,y8⟩:=(v1.grown ((Below.refl _ _).drew)).only hR hbv
   go_simp
   exact gl
 · intro w' hR _
   apply ol
   obtain ⟨y0,y1,y2,y3,y4,y5,y6,y7,y8⟩:=(v1.grown ((Below.refl _ _).drew)).only hR hbv
   go_simp
   exact gl
 · intros;apply ol;go_simp;exact gl
 · intros;apply ol;go_simp;exact gl
 · intros;apply ol;go_simp;exact gl
 · intro w' hR _
   apply ol
   have z:=(i1.drew.only hR hb).cell 1 rfl
   go_simp
   exact gl
 · intro w' hR _
   apply ol
   go_simp
   refine (slink_any L _ _ _ _ _ _ _ _ _ _ ⟨ht0,ht8⟩ (by omega)).mono ?_
   rintro e w'' ⟨rfl,b9⟩
   exact ⟨_,rfl,b9,by rw [HA.out];rfl⟩
 · intros;apply ol;go_simp;exact gl
 · intro w' hR _
   apply ol
   go_simp
   refine (putTop_w H 0 _ hH (by omega)).mono ?_
   rintro e w'' ⟨rfl,rfl⟩
   exact ⟨_,rfl,Grown.refl _,rfl⟩
 · intro w' hR _ hP
   apply ol
   go_simp
   refine (estore_in (s:=s) hP _ _ _ _ _ _ _ _ A hn _).mono ?_
   rintro e w'' ⟨rfl,m2,o2⟩
   exact ⟨_,rfl,⟨o2,m2⟩,trivial⟩
 intro v w2 hR hP _
 have m2 : MemAt w2 L ((s.by who).step A (topw H 0)):=hP
 have i2:=i1.drew.only hR hb
 have o2 : Only (L.and b) w w2:=o1.drew.trans hR.andL
 clear hR o1 v1 m1 i1 HA hP
 have k0:=i2.cell0 rfl
 have kf:=i2.fz
 go_wp2
 go_ret
 exact ⟨rfl,_,m2.setIn hb _ _,i2.set0 _,Same.refl.set (j:=o) (by omega) _,o2.set _ _⟩
theorem gstep_yes {w : World} {L : Loc} {s : Mm} {b o : Nat} {T : TypeId} {cs : Array Value} {sl : Nat} (h : MemAt w L s) (hb : ¬ L.has b) (H C : Nat) (hi : At w b o T cs (GvV 2 sl (topw H C))) (c0 c1 c2 c3 c4 c5 c6 who : Int) (hn : 1 < s.n) (hsl : (sl : Int) < c1) (hs : sl <= 65535) (hH : H <= 65536) (hC : C <= 1000000) (yes : s.wd 1 = topw H C) :
 Calls Tryz.prog 91 #[.pointer (some ⟨b,o,none⟩),.agg #[.int .i64 c0,.int .i64 c1,.int .i64 c2,.int .i64 c3,.int .i64 c4,.int .i64 c5,.int .i64 c6,.pointer (some ⟨L.p,0,none⟩),.int .i64 who]] w fun e w'=>e = .returned (.bool true) /\ ∃ cs',MemAt w' L ((s.by who).step 1 (topw (sl + 1) (C + 1))) /\ At w' b o T cs' (GvV 3 sl (topw H C)) /\ Same o 3 cs cs' /\ Only (L.and b) w w':=by
 have hn1 : decide ((s.n : Int) <= 1) = false:=decide_eq_false (by omega)
 have hbv : ¬ L.has w.heap.size:=fun hh=>by have:=h.lt _ hh;omega
 have hbb : ¬ w.heap.size = b:=fun hh=>by have:=hi.lt;omega
 have HW : Hid (s.wd 1 = topw H C):=yes
 clear yes
 go_enter Tryz.func91,Tryz.ntmps91
 go_wp2
 refine wp_over (fun W=>MemAt W L s /\ At W b o T cs (GvV 2 sl (topw H C)) /\ BoxV W w.heap.size c0 c1 c2 c3 c4 c5 c6 L.p who /\ Only (L.and b) w W) ⟨h.alloc _,hi.grown (grow_alloc (Below.refl _ _) _),BoxV.new,(Only.refl _ _).alloc _⟩ ?_
 rintro W ⟨m1,i1,v1,o1⟩
 have e0:=fun N : Later W=>(v1.grown N.below).c0
 have e1:=fun N : Later W=>(v1.grown N.below).c1
 have e2:=fun N : Later W=>(v1.grown N.below).c2
 have e3:=fun N : Later W=>(v1.grown N.below).c3
 have e4:=fun N : Later W=>(v1.grown N.below).c4
 have e5:=fun N : Later W=>(v1.grown N.below).c5
 have e6:=fun N : Later W=>(v1.grown N.below).c6
 have e7:=fun N : Later W=>(v1.grown N.below).c7
 have e8:=fun N : Later W=>(v1.grown N.below).c8
 have e9:=fun N : Later W=>(i1.grown N.below).cell 1 rfl
 have hm:=fun N : Later W=>m1.below N.below
 haveI:=Later.exists W
 refine wp_region_later (by kernel_rfl) (by kernel_rfl) ?_
 repeat (go_big_quiet_step ((first
  | (go_at_call 106;exact Calls.later (shas_any L _ _ _ _ _ _ _ _ _ _ true (decide_eq_true ⟨by omega,by omega⟩)))
  | (go_at_call 30;exact Calls.later_same (ltop_any _))
  | (go_at_call 105;exact Calls.later_same (len_any (hm _))))))
 refine wpQuiet_nil ?_
 rintro _ ⟨nq,rfl⟩
 clear e0 e1 e2 e3 e4 e5 e6 e7 e8 e9 hm hn1
 have i2:=i1.grown nq.below
 have m2:=m1.below nq.below
 have v2:=v1.grown nq.below
 have o2 : Only (L.and b) w nq.now:=o1.trans (Only.ofGrown nq.below)
 have k0:=i2.cell0 rfl
 have k2:=i2.cell 2 rfl
 have kf:=i2.fz
 clear m1 i1 v1 o1
 go_wp2
 refine wp_over (fun W=>MemAt W L s /\ At W b o T cs (GvV 2 sl (topw H C)) /\ BoxV W w.heap.size c0 c1 c2 c3 c4 c5 c6 L.p who /\ Only (L.and b) w W) ⟨m2,i2,v2,o2⟩ ?_
 clear m2 i2 v2 o2 k0 k2 kf
 rintro W ⟨m1,i1,v1,o1⟩
 refine wp_region_phase (OnlyBut L b o) Grown (phAt L b o T cs (cs.setIfInBounds o (.int .i64 3)) s ((s.by who).step 1 (topw (sl + 1) (C + 1))) (GvV 2 sl (topw H C)) (GvV 3 sl (topw H C))) [10,13] [.val (.pointer (some ⟨b,o,none⟩)),.val (.agg #[.int .i64 c0,.int .i64 c1,.int .i64 c2,.int .i64 c3,.int .i64 c4,.int .i64 c5,.int .i64 c6,.pointer (some ⟨L.p,0,none⟩),.int .i64 who]),.val (.pointer (some ⟨b,o,none⟩)),.val (.pointer (some ⟨b,o,none⟩)),.val (.pointer (some ⟨b,o + 2,none⟩)),.val (.int .u64 (topw H C)),.val (.pointer (some ⟨b,o,none⟩)),.val (.pointer (some ⟨b,o,none⟩)),.val (.pointer (some ⟨b,o + 1,none⟩)),.val (.int .i64 sl),.val (.int .i64 3),.val (.pointer (some ⟨b,o,none⟩)),.val (.pointer (some ⟨b,o,none⟩)),.that (fun _ _=>True) (fun _ _ _ _ _=>trivial)]
  (by kernel_rfl) OnlyBut.refl OnlyBut.trans OnlyBut.ofGrown phAt_grown ⟨m1.drew,i1.drew⟩ (by kernel_rfl) (by kernel_rfl) (by kernel_rfl) (by kernel_rfl) (by kernel_rfl) ?_
 simp only [phaseAll,Act.put,List.setIfInBounds_toArray,List.set_cons_zero,List.set_cons_succ]
 refine ⟨?_,?_,?_,?_,?_,?_,?_,?_,?_,?_,?_,?_,?_,?_,?_⟩
 · intros;apply ol;go_simp;exact gl
 · intro w' hR _
   apply ol
   obtain ⟨y0,y1,y2,y3,y4,y5,y6,y7,y8⟩:=(v1.grown ((Below.refl _ _).drew)).only hR.only (fun hh=>hh.elim hbv hbb)
   go_simp
   exact gl
 · intros;apply ol;go_simp;exact gl
 · intros;apply ol;go_simp;exact gl
 · intros;apply ol;go_simp;exact gl
 · intro w' hR _
   apply ol
   have z:=hR.keep (j:=o + 2) (by omega) (i1.drew.cell 2 rfl)
   go_simp
   exact gl
 · intros;apply ol;go_simp;exact gl
 · intros;apply ol;go_simp;exact gl
 · intros;apply ol;go_simp;exact gl
 · intro w' hR _
   apply ol
   have z:=hR.keep (j:=o + 1) (by omega) (i1.drew.cell 1 rfl)
   go_simp
   exact gl
 · intro w' hR _ hP
   apply ol
   go_simp
   refine (swap_yes_at (s:=s) hP.1 _ _ _ _ _ _ _ _ H C sl hn hH hC hs HW.out).mono ?_
   rintro e w'' ⟨rfl,m2,o2⟩
   exact ⟨_,rfl,⟨OnlyBut.ofOnly o2 hb,m2,hP.2.only o2 hb⟩,rfl⟩
 · intros;apply ol;go_simp;exact gl
 · intros;apply ol;go_simp;exact gl
 · intro w' hR _ hP
   apply ol
   have z0:=hP.2.cell0 rfl
   have z1:=hP.2.fz
   go_simp
   exact ⟨⟨OnlyBut.set _ _,hP.1.setIn hb _ _,hP.2.set0 _⟩,trivial⟩
 intro v w2 hR hP _
 obtain ⟨m2,i2⟩ : MemAt w2 L ((s.by who).step 1 (topw (sl + 1) (C + 1))) /\ At w2 b o T (cs.setIfInBounds o (.int .i64 3)) (GvV 3 sl (topw H C)):=hP
 have o2 : Only (L.and b) w w2:=o1.drew.trans hR.only
 have s2 : Same o 3 cs (cs.setIfInBounds o (.int .i64 3)):=Same.refl.set (by omega) _
 clear hR o1 v1 m1 i1 HW
 have k0:=i2.cell0 rfl
 have kf:=i2.fz
 go_wp2
 go_ret
 exact ⟨rfl,_,m2,i2,s2,o2⟩
theorem gstep_no {w : World} {L : Loc} {s : Mm} {b o : Nat} {T : TypeId} {cs : Array Value} {sl : Nat} (h : MemAt w L s) (hb : ¬ L.has b) (H C : Nat) (hi : At w b o T cs (GvV 2 sl (topw H C))) (c0 c1 c2 c3 c4 c5 c6 who : Int) (hn : 1 < s.n) (hsl : (sl : Int) < c1) (hs : sl <= 65535) (hH : H <= 65536) (hC : C <= 1000000) (no : ¬ s.wd 1 = topw H C) :
 Calls Tryz.prog 91 #[.pointer (some ⟨b,o,none⟩),.agg #[.int .i64 c0,.int .i64 c1,.int .i64 c2,.int .i64 c3,.int .i64 c4,.int .i64 c5,.int .i64 c6,.pointer (some ⟨L.p,0,none⟩),.int .i64 who]] w fun e w'=>e = .returned (.bool false) /\ ∃ cs',MemAt w' L ((s.by who).step 1 (s.wd 1)) /\ At w' b o T cs' (GvV 0 sl (topw H C)) /\ Same o 3 cs cs' /\ Only (L.and b) w w':=by
 have hn1 : decide ((s.n : Int) <= 1) = false:=decide_eq_false (by omega)
 have hbv : ¬ L.has w.heap.size:=fun hh=>by have:=h.lt _ hh;omega
 have hbb : ¬ w.heap.size = b:=fun hh=>by have:=hi.lt;omega
 have HW : Hid (¬ s.wd 1 = topw H C):=no
 clear no
 go_enter Tryz.func91,Tryz.ntmps91
 go_wp2
 refine wp_over (fun W=>MemAt W L s /\ At W b o T cs (GvV 2 sl (topw H C)) /\ BoxV W w.heap.size c0 c1 c2 c3 c4 c5 c6 L.p who /\ Only (L.and b) w W) ⟨h.alloc _,hi.grown (grow_alloc (Below.refl _ _) _),BoxV.new,(Only.refl _ _).alloc _⟩ ?_
 rintro W ⟨m1,i1,v1,o1⟩
 have e0:=fun N : Later W=>(v1.grown N.below).c0
 have e1:=fun N : Later W=>(v1.grown N.below).c1
 have e2:=fun N : Later W=>(v1.grown N.below).c2
 have e3:=fun N : Later W=>(v1.grown N.below).c3
 have e4:=fun N : Later W=>(v1.grown N.below).c4
 have e5:=fun N : Later W=>(v1.grown N.below).c5
 have e6:=fun N : Later W=>(v1.grown N.below).c6
 have e7:=fun N : Later W=>(v1.grown N.below).c7
 have e8:=fun N : Later W=>(v1.grown N.below).c8
 have e9:=fun N : Later W=>(i1.grown N.below).cell 1 rfl
 have hm:=fun N : Later W=>m1.below N.below
 haveI:=Later.exists W
 refine wp_region_later (by kernel_rfl) (by kernel_rfl) ?_
 repeat (go_big_quiet_step ((first
  | (go_at_call 106;exact Calls.later (shas_any L _ _ _ _ _ _ _ _ _ _ true (decide_eq_true ⟨by omega,by omega⟩)))
  | (go_at_call 30;exact Calls.later_same (ltop_any _))
  | (go_at_call 105;exact Calls.later_same (len_any (hm _))))))
 refine wpQuiet_nil ?_
 rintro _ ⟨nq,rfl⟩
 clear e0 e1 e2 e3 e4 e5 e6 e7 e8 e9 hm hn1
 have i2:=i1.grown nq.below
 have m2:=m1.below nq.below
 have v2:=v1.grown nq.below
 have o2 : Only (L.and b) w nq.now:=o1.trans (Only.ofGrown nq.below)
 have k0:=i2.cell0 rfl
 have k2:=i2.cell 2 rfl
 have kf:=i2.fz
 clear m1 i1 v1 o1
 go_wp2
 refine wp_over (fun W=>MemAt W L s /\ At W b o T cs (GvV 2 sl (topw H C)) /\ BoxV W w.heap.size c0 c1 c2 c3 c4 c5 c6 L.p who /\ Only (L.and b) w W) ⟨m2,i2,v2,o2⟩ ?_
 clear m2 i2 v2 o2 k0 k2 kf
 rintro W ⟨m1,i1,v1,o1⟩
 refine wp_region_phase (OnlyBut L b o) Grown (phAt L b o T cs (cs.setIfInBounds o (.int .i64 0)) s ((s.by who).step 1 (s.wd 1)) (GvV 2 sl (topw H C)) (GvV 0 sl (topw H C))) [10,13] [.val (.pointer (some ⟨b,o,none⟩)),.val (.agg #[.int .i64 c0,.int .i64 c1,.int .i64 c2,.int .i64 c3,.int .i64 c4,.int .i64 c5,.int .i64 c6,.pointer (some ⟨L.p,0,none⟩),.int .i64 who]),.val (.pointer (some ⟨b,o,none⟩)),.val (.pointer (some ⟨b,o,none⟩)),.val (.pointer (some ⟨b,o + 2,none⟩)),.val (.int .u64 (topw H C)),.val (.pointer (some ⟨b,o,none⟩)),.val (.pointer (some ⟨b,o,none⟩)),.val (.pointer (some ⟨b,o + 1,none⟩)),.val (.int .i64 sl),.val (.int .i64 0),.val (.pointer (some ⟨b,o,none⟩)),.val (.pointer (some ⟨b,o,none⟩)),.that (fun _ _=>True) (fun _ _ _ _ _=>trivial)]
  (by kernel_rfl) OnlyBut.refl OnlyBut.trans OnlyBut.ofGrown phAt_grown ⟨m1.drew,i1.drew⟩ (by kernel_rfl) (by kernel_rfl) (by kernel_rfl) (by kernel_rfl) (by kernel_rfl) ?_
 simp only [phaseAll,Act.put,List.setIfInBounds_toArray,List.set_cons_zero,List.set_cons_succ]
 refine ⟨?_,?_,?_,?_,?_,?_,?_,?_,?_,?_,?_,?_,?_,?_,?_⟩
 · intros;apply ol;go_simp;exact gl
 · intro w' hR _
   apply ol
   obtain ⟨y0,y1,y2,y3,y4,y5,y6,y7,y8⟩:=(v1.grown ((Below.refl _ _).drew)).only hR.only (fun hh=>hh.elim hbv hbb)
   go_simp
   exact gl
 · intros;apply ol;go_simp;exact gl
 · intros;apply ol;go_simp;exact gl
 · intros;apply ol;go_simp;exact gl
 · intro w' hR _
   apply ol
   have z:=hR.keep (j:=o + 2) (by omega) (i1.drew.cell 2 rfl)
   go_simp
   exact gl
 · intros;apply ol;go_simp;exact gl
 · intros;apply ol;go_simp;exact gl
 · intros;apply ol;go_simp;exact gl
 · intro w' hR _
   apply ol
   have z:=hR.keep (j:=o + 1) (by omega) (i1.drew.cell 1 rfl)
   go_simp
   exact gl
 · intro w' hR _ hP
   apply ol
   go_simp
   refine (swap_no_at (s:=s) hP.1 _ _ _ _ _ _ _ _ H C sl hn hH hC hs HW.out).mono ?_
   rintro e w'' ⟨rfl,m2,o2⟩
   exact ⟨_,rfl,⟨OnlyBut.ofOnly o2 hb,m2,hP.2.only o2 hb⟩,rfl⟩
 · intros;apply ol;go_simp;exact gl
 · intros;apply ol;go_simp;exact gl
 · intro w' hR _ hP
   apply ol
   have z0:=hP.2.cell0 rfl
   have z1:=hP.2.fz
   go_simp
   exact ⟨⟨OnlyBut.set _ _,hP.1.setIn hb _ _,hP.2.set0 _⟩,trivial⟩
 intro v w2 hR hP _
 obtain ⟨m2,i2⟩ : MemAt w2 L ((s.by who).step 1 (s.wd 1)) /\ At w2 b o T (cs.setIfInBounds o (.int .i64 0)) (GvV 0 sl (topw H C)):=hP
 have o2 : Only (L.and b) w w2:=o1.drew.trans hR.only
 have s2 : Same o 3 cs (cs.setIfInBounds o (.int .i64 0)):=Same.refl.set (by omega) _
 clear hR o1 v1 m1 i1 HW
 have k0:=i2.cell0 rfl
 have kf:=i2.fz
 go_wp2
 go_ret
 exact ⟨rfl,_,m2,i2,s2,o2⟩
end Go.Proofs.YtlolfmoolgenpaaGreat

namespace Go.Proofs.YtlolfmoolgenpaaGreat
open Go.RowKit
inductive Tk where
 | idle
 | saw (h c : Nat)
 | lnk (h c q : Nat)
 | won (h : Nat)
 | none
def Tk.over : Tk -> Bool
 | .won _=>true
 | .none=>true
 | _=>false
def Tk.cells : Tk -> List Value -> Prop
 | .idle,l=>∃ tp sl bh,l = TkV 0 tp sl bh
 | .saw h c,l=>∃ bh,l = TkV 1 (topw (h + 1) c) h bh
 | .lnk h c q,l=>l = TkV 2 (topw (h + 1) c) h ((q : Int) - 1)
 | .won h,l=>∃ tp bh,l = TkV 3 tp h bh
 | .none,l=>∃ tp sl bh,l = TkV 4 tp sl bh
def Tk.good (n c : Nat) (lk : Nat -> Nat) (F : List Nat) : Tk -> Prop
 | .idle=>True
 | .saw h c'=>h < n /\ c' <= c /\ (c' = c -> hd F = h + 1)
 | .lnk h c' q=>h < n /\ q <= n /\ c' <= c /\ (c' = c -> hd F = h + 1 /\ q = lk h)
 | .won h=>h < n
 | .none=>True
inductive TkStep (n c : Nat) (lk : Nat -> Nat) : List Nat -> Tk -> Nat -> List Nat -> Tk -> Prop where
 | none : TkStep n c lk [] .idle c [] .none
 | saw (x : Nat) (F : List Nat) (hx : x < n) : TkStep n c lk (x :: F) .idle c (x :: F) (.saw x c)
 | link (F : List Nat) (h c' : Nat) : TkStep n c lk F (.saw h c') c F (.lnk h c' (lk h))
 | took (x : Nat) (F : List Nat) (hx : x < n) : TkStep n c lk (x :: F) (.lnk x c (lk x)) (c + 1) F (.won x)
 | vain (F : List Nat) (h c' q : Nat) (hc : c' < c) : TkStep n c lk F (.lnk h c' q) c F .idle
def TkAt (w : World) (b o : Nat) (T : TypeId) (c : Array Value) (τ : Tk) : Prop:=∃ l,At w b o T c l /\ τ.cells l
inductive Gv where
 | idle
 | saw (h c : Nat)
 | lnk (h c : Nat)
 | over
def Gv.cells (x : Nat) : Gv -> List Value -> Prop
 | .idle,l=>∃ tp,l = GvV 0 x tp
 | .saw h c,l=>l = GvV 1 x (topw h c)
 | .lnk h c,l=>l = GvV 2 x (topw h c)
 | .over,l=>∃ tp,l = GvV 3 x tp
def Gv.good (n c : Nat) (lk : Nat -> Nat) (F : List Nat) (x : Nat) : Gv -> Prop
 | .idle=>True
 | .saw h c'=>h <= n /\ c' <= c /\ (c' = c -> hd F = h)
 | .lnk h c'=>h <= n /\ lk x = h /\ c' <= c /\ (c' = c -> hd F = h)
 | .over=>True
inductive GvStep (n c : Nat) (x : Nat) : (Nat -> Nat) -> List Nat -> Gv -> Nat -> (Nat -> Nat) -> List Nat -> Gv -> Prop where
 | load (lk : Nat -> Nat) (F : List Nat) : GvStep n c x lk F .idle c lk F (.saw (hd F) c)
 | lay (lk : Nat -> Nat) (F : List Nat) (h c' : Nat) : GvStep n c x lk F (.saw h c') c (upd lk x h) F (.lnk h c')
 | gave (lk : Nat -> Nat) (F : List Nat) : GvStep n c x lk F (.lnk (hd F) c) (c + 1) lk (x :: F) .over
 | vain (lk : Nat -> Nat) (F : List Nat) (h c' : Nat) (hc : c' < c) : GvStep n c x lk F (.lnk h c') c lk F .idle
def Gv.done : Gv -> Bool
 | .over=>true
 | _=>false
def GvAt (w : World) (b o : Nat) (T : TypeId) (c : Array Value) (x : Nat) (γ : Gv) : Prop:=∃ l,At w b o T c l /\ γ.cells x l
def Tk.at (t : Nat) : Tk -> Nat
 | .saw h _=>6 + t + h * 2 + 1
 | _=>1
def Gv.at (t x : Nat) : Gv -> Nat
 | .saw _ _=>6 + t + x * 2 + 1
 | _=>1
section
variable {w : World} {L : Loc} {s : Mm} {b o : Nat} {T : TypeId} {cs : Array Value} {t n σ c : Nat} {lk : Nat -> Nat} {F : List Nat}
structure Took (w : World) (L : Loc) (s : Mm) (b o : Nat) (T : TypeId) (cs : Array Value) (t n σ c : Nat) (lk : Nat -> Nat) (F : List Nat) (who : Int) (τ : Tk) (w' : World) (s' : Mm) (cs' : Array Value) (c' : Nat) (F' : List Nat) (τ' : Tk) : Prop where
 turn : TkStep n c lk F τ c' F' τ'
 m : MemAt w' L s'
 p : Pile t n s' (σ + 1) c' lk F'
 a : TkAt w' b o T cs' τ'
 same : Same o 4 cs cs'
 only : Only (L.and b) w w'
 good : τ'.good n c' lk F'
 at1 : s'.la = ((τ.at t : Nat) : Int)
 still : F = [] -> τ = .idle -> s'.wd = s.wd
 len : s'.n = s.n
 st : ∃ v,s' = (s.by who).step (τ.at t) v
theorem take_step (h : MemAt w L s) (hb : ¬ L.has b) (hp : Pile t n s σ c lk F) (hσ : σ < 1000000) (ht8 : t <= 8) (τ : Tk) (hi : TkAt w b o T cs τ) (hg : τ.good n c lk F) (ho : τ.over = false) (c2 c3 c4 c5 c6 who : Int) :
 Calls Tryz.prog 80 #[.pointer (some ⟨b,o,none⟩),.agg #[.int .i64 t,.int .i64 n,.int .i64 c2,.int .i64 c3,.int .i64 c4,.int .i64 c5,.int .i64 c6,.pointer (some ⟨L.p,0,none⟩),.int .i64 who]] w fun e w'=>∃ s' cs' c' F' τ',e = .returned (.bool τ'.over) /\ Took w L s b o T cs t n σ c lk F who τ w' s' cs' c' F' τ':=by
 have hn : 1 < s.n:=by have:=hp.len;omega
 have hC : c <= 1000000:=by have:=hp.cs;omega
 have hbig:=hp.big
 obtain ⟨l,ha,hl⟩:=hi
 cases τ with
 | won _=>cases ho
 | none=>cases ho
 | idle =>
  obtain ⟨tp,sl,bh,rfl⟩:=hl
  cases F with
  | nil =>
   refine (tstep_none h hb ha _ _ _ _ _ _ _ _ c hn hp.top hC).mono ?_
   rintro e w' ⟨rfl,cs',m,a,sm,on⟩
   exact ⟨_,cs',c,[],.none,rfl,.none,m,hp.same hσ who 1,⟨_,a,_,_,_,rfl⟩,sm,on,trivial,rfl,fun _ _=>upd_id _ _,rfl,_,rfl⟩
  | cons x F =>
   have hx:=hp.lt x (by simp)
   refine (tstep_some h hb ha _ _ _ _ _ _ _ _ x c hn hp.top hC (by omega) (by omega)).mono ?_
   rintro e w' ⟨rfl,cs',m,a,sm,on⟩
   exact ⟨_,cs',c,x :: F,.saw x c,rfl,.saw x F hx,m,hp.same hσ who 1,⟨_,a,_,rfl⟩,sm,on,⟨hx,Nat.le_refl _,fun _=>rfl⟩,rfl,(fun h=>by cases h),rfl,_,rfl⟩
 | saw x c0 =>
  obtain ⟨bh,rfl⟩:=hl
  obtain ⟨hx,hc0,hh⟩:=hg
  have hlk:=hp.lkle x hx
  refine (tstep_link h hb ha _ _ _ _ _ _ _ _ (lk x) (6 + t + x * 2 + 1) (by omega) (by omega) (by omega) (by omega) (by have:=hp.len;omega) (hp.lkv x hx) (by omega)).mono ?_
  rintro e w' ⟨rfl,cs',m,a,sm,on⟩
  exact ⟨_,cs',c,F,.lnk x c0 (lk x),rfl,.link F x c0,m,hp.same hσ who _,⟨_,a,rfl⟩,sm,on,⟨hx,hlk,hc0,fun e=>⟨hh e,rfl⟩⟩,rfl,(fun _ h=>by cases h),rfl,_,rfl⟩
 | lnk x c0 q =>
  have hl' : l = TkV 2 (topw (x + 1) c0) x ((q : Int) - 1):=hl
  subst hl'
  obtain ⟨hx,hq,hc0,hh⟩:=hg
  have hd1:=hp.hdle
  by_cases hc : c0 = c
  · subst hc
    obtain ⟨hd2,rfl⟩:=hh rfl
    cases F with
    | nil=>simp [hd] at hd2
    | cons y F =>
     obtain rfl : y = x:=by simpa [hd] using hd2
     refine (tstep_yes h hb (y + 1) c0 (lk y) ha _ _ _ _ _ _ _ _ hn (by omega) hC (by omega) hp.top).mono ?_
     rintro e w' ⟨rfl,cs',m,a,sm,on⟩
     exact ⟨_,cs',c0 + 1,F,.won y,rfl,.took y F hx,m,hp.pop hσ who,⟨_,a,_,_,rfl⟩,sm,on,hx,rfl,(fun h=>by cases h),rfl,_,rfl⟩
  · have hlt : c0 < c:=by omega
    have hne : ¬ s.wd 1 = topw (x + 1) c0:=fun e=>by
     rw [hp.top] at e
     have:=(topw_inj (by omega) (by omega) e).2
     omega
    refine (tstep_no h hb (x + 1) c0 q ha _ _ _ _ _ _ _ _ hn (by omega) (by omega) (by omega) hne).mono ?_
    rintro e w' ⟨rfl,cs',m,a,sm,on⟩
    exact ⟨_,cs',c,F,.idle,rfl,.vain F x c0 q hlt,m,hp.same hσ who 1,⟨_,a,_,_,_,rfl⟩,sm,on,trivial,rfl,(fun _ h=>by cases h),rfl,_,rfl⟩
structure Gave (w : World) (L : Loc) (s : Mm) (b o : Nat) (T : TypeId) (cs : Array Value) (t n σ c : Nat) (lk : Nat -> Nat) (F : List Nat) (x : Nat) (who : Int) (γ : Gv) (w' : World) (s' : Mm) (cs' : Array Value) (c' : Nat) (lk' : Nat -> Nat) (F' : List Nat) (γ' : Gv) : Prop where
 turn : GvStep n c x lk F γ c' lk' F' γ'
 m : MemAt w' L s'
 p : Pile t n s' (σ + 1) c' lk' F'
 a : GvAt w' b o T cs' x γ'
 same : Same o 3 cs cs'
 only : Only (L.and b) w w'
 good : γ'.good n c' lk' F' x
 len : s'.n = s.n
 st : ∃ v,s' = (s.by who).step (γ.at t x) v
theorem give_step (h : MemAt w L s) (hb : ¬ L.has b) (hp : Pile t n s σ c lk F) (hσ : σ < 1000000) (ht8 : t <= 8) {x : Nat} (hx : x < n) (hF : x ∉ F) (γ : Gv) (hi : GvAt w b o T cs x γ) (hg : γ.good n c lk F x) (ho : γ.done = false) (c2 c3 c4 c5 c6 who : Int) :
 Calls Tryz.prog 91 #[.pointer (some ⟨b,o,none⟩),.agg #[.int .i64 t,.int .i64 n,.int .i64 c2,.int .i64 c3,.int .i64 c4,.int .i64 c5,.int .i64 c6,.pointer (some ⟨L.p,0,none⟩),.int .i64 who]] w fun e w'=>∃ s' cs' c' lk' F' γ',e = .returned (.bool γ'.done) /\ Gave w L s b o T cs t n σ c lk F x who γ w' s' cs' c' lk' F' γ':=by
 have hn : 1 < s.n:=by have:=hp.len;omega
 have hC : c <= 1000000:=by have:=hp.cs;omega
 have hbig:=hp.big
 have hd1:=hp.hdle
 obtain ⟨l,ha,hl⟩:=hi
 cases γ with
 | over=>cases ho
 | idle =>
  obtain ⟨tp,rfl⟩:=hl
  refine (gstep_load h hb ha _ _ _ _ _ _ _ _ (hd F) c hn (by omega) hp.top).mono ?_
  rintro e w' ⟨rfl,cs',m,a,sm,on⟩
  exact ⟨_,cs',c,lk,F,.saw (hd F) c,rfl,.load lk F,m,hp.same hσ who 1,⟨_,a,rfl⟩,sm,on,⟨hd1,Nat.le_refl _,fun _=>rfl⟩,rfl,_,rfl⟩
 | saw q c0 =>
  have hl' : l = GvV 1 x (topw q c0):=hl
  subst hl'
  obtain ⟨hq,hc0,hh⟩:=hg
  refine (gstep_lay h hb q c0 (6 + t + x * 2 + 1) ha _ _ _ _ _ _ _ _ (by omega) (by omega) (by omega) (by omega) (by have:=hp.len;omega) (by omega) (by omega) (by omega)).mono ?_
  rintro e w' ⟨rfl,cs',m,a,sm,on⟩
  exact ⟨_,cs',c,upd lk x q,F,.lnk q c0,rfl,.lay lk F q c0,m,hp.lay hσ who hx hF q hq,⟨_,a,rfl⟩,sm,on,⟨hq,upd_same _ _ _,hc0,hh⟩,rfl,_,rfl⟩
 | lnk q c0 =>
  have hl' : l = GvV 2 x (topw q c0):=hl
  subst hl'
  obtain ⟨hq,hlk,hc0,hh⟩:=hg
  by_cases hc : c0 = c
  · subst hc
    have hd2:=hh rfl
    subst hd2
    refine (gstep_yes h hb (hd F) c0 ha _ _ _ _ _ _ _ _ hn (by omega) (by omega) (by omega) hC hp.top).mono ?_
    rintro e w' ⟨rfl,cs',m,a,sm,on⟩
    exact ⟨_,cs',c0 + 1,lk,x :: F,.over,rfl,.gave lk F,m,hp.push hσ who hx hF hlk,⟨_,a,_,rfl⟩,sm,on,trivial,rfl,_,rfl⟩
  · have hlt : c0 < c:=by omega
    have hne : ¬ s.wd 1 = topw q c0:=fun e=>by
     rw [hp.top] at e
     have:=(topw_inj (by omega) (by omega) e).2
     omega
    refine (gstep_no h hb q c0 ha _ _ _ _ _ _ _ _ hn (by omega) (by omega) (by omega) (by omega) hne).mono ?_
    rintro e w' ⟨rfl,cs',m,a,sm,on⟩
    exact ⟨_,cs',c,lk,F,.idle,rfl,.vain lk F q c0 hlt,m,hp.same hσ who 1,⟨_,a,_,rfl⟩,sm,on,trivial,rfl,_,rfl⟩
theorem slot_won {τ : Tk} (hi : TkAt w b o T cs τ) (x : Nat) (hx : τ = .won x) :
 Calls Tryz.prog 81 #[.pointer (some ⟨b,o,none⟩)] w fun e w'=>e = .returned (.tuple #[.int .i64 x,.bool true]) /\ w' = w:=by
 subst hx
 obtain ⟨l,ha,tp,bh,rfl⟩:=hi
 have k0:=ha.cell0 rfl
 have k2:=ha.cell 2 rfl
 go_enter Tryz.func81,Tryz.ntmps81
 go_wp2
 go_ret2
 exact ⟨rfl,rfl⟩
theorem slot_none {τ : Tk} (hi : TkAt w b o T cs τ) (hx : τ = .none) :
 Calls Tryz.prog 81 #[.pointer (some ⟨b,o,none⟩)] w fun e w'=>e = .returned (.tuple #[.int .i64 0,.bool false]) /\ w' = w:=by
 subst hx
 obtain ⟨l,ha,tp,sl,bh,rfl⟩:=hi
 have k0:=ha.cell0 rfl
 go_enter Tryz.func81,Tryz.ntmps81
 go_wp2
 go_ret2
 exact ⟨rfl,rfl⟩
theorem newGive_any (x : Nat) (w : World) :
 Calls Tryz.prog 86 #[.int .i64 x] w fun e w'=>e = .returned (.pointer (some ⟨w.heap.size,0,none⟩)) /\ w' = w.alloc (.cells #[.int .i64 0,.int .i64 x,.int .u64 0] 106):=by
 go_enter Tryz.func86,Tryz.ntmps86
 go_wp2
 go_ret
 exact ⟨rfl,rfl⟩
end
end Go.Proofs.YtlolfmoolgenpaaGreat
