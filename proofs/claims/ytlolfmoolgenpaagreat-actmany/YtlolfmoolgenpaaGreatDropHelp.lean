import Derived.Test.YtlolfmoolgenpaaGreatLayRef
import Derived.Test.YtlolfmoolgenpaaGreatPlaceTurn
namespace Go.Proofs.YtlolfmoolgenpaaGreat
open Go.RowKit
set_option maxRecDepth 20000
theorem At.new2 (w : World) (O : Obj) (T : TypeId) (l : List Value) : At ((w.alloc O).alloc (.cells l.toArray T)) (w.heap.size + 1) 0 T l.toArray l:=by
 have:=At.new (w.alloc O) T l
 rwa [Go.Deep.nblk_alloc] at this
theorem At.new3 (w : World) (O O' : Obj) (T : TypeId) (l : List Value) : At (((w.alloc O).alloc O').alloc (.cells l.toArray T)) (w.heap.size + 1 + 1) 0 T l.toArray l:=by
 have:=At.new2 (w.alloc O) O' T l
 rwa [Go.Deep.nblk_alloc] at this
theorem grow1 (w : World) (O : Obj) : Below w.heap.size w (w.alloc O):=grow_alloc (Below.refl _ _) _
def lifeB (st : Int) : Bool:=st == 1 || st == 2 || st == 4
theorem lifeB_cases (st : Int) : (st = 1 /\ lifeB st = true) \/ (st ≠ 1 /\ st = 2 /\ lifeB st = true) \/ (st ≠ 1 /\ st ≠ 2 /\ st = 4 /\ lifeB st = true) \/ (st ≠ 1 /\ st ≠ 2 /\ st ≠ 4 /\ lifeB st = false):=by
 by_cases h1 : st = 1
 · subst h1;exact Or.inl ⟨rfl,rfl⟩
 · by_cases h2 : st = 2
   · subst h2;exact Or.inr (Or.inl ⟨h1,rfl,rfl⟩)
   · by_cases h4 : st = 4
     · subst h4;exact Or.inr (Or.inr (Or.inl ⟨h1,h2,rfl,rfl⟩))
     · exact Or.inr (Or.inr (Or.inr ⟨h1,h2,h4,by simp [lifeB,h1,h2,h4]⟩))
theorem dlives_any (st A G V : Int) (w : World) :
 Calls Tryz.prog 130 #[.agg #[.int .i64 st,.int .i64 A,.int .i64 G,.int .i64 V]] w fun e w'=>e = .returned (.bool (lifeB st)) /\ Below w.heap.size w w':=by
 rcases lifeB_cases st with ⟨rfl,h⟩ | ⟨h1,rfl,h⟩ | ⟨h1,h2,rfl,h⟩ | ⟨h1,h2,h4,h⟩ <;> rw [h]
 · go_enter Tryz.func130,Tryz.ntmps130
   go_wp2
   go_ret
   exact ⟨rfl,grow_alloc (Below.refl _ _) _⟩
 · clear h1
   go_enter Tryz.func130,Tryz.ntmps130
   go_wp2
   go_ret
   exact ⟨rfl,grow_alloc (Below.refl _ _) _⟩
 · clear h1 h2
   go_enter Tryz.func130,Tryz.ntmps130
   go_wp2
   go_ret
   exact ⟨rfl,grow_alloc (Below.refl _ _) _⟩
 · go_enter Tryz.func130,Tryz.ntmps130
   go_wp2
   go_ret
   exact ⟨rfl,grow_alloc (Below.refl _ _) _⟩
theorem dlive_any (st A G V x G' : Int) (w : World) :
 Calls Tryz.prog 127 #[.agg #[.int .i64 st,.int .i64 A,.int .i64 G,.int .i64 V],.agg #[.int .i64 x,.int .i64 G']] w fun e w'=>e = .returned (.bool (lifeB st && G == G')) /\ Below w.heap.size w w':=by
 obtain ⟨l,hl⟩ : ∃ l,lifeB st = l:=⟨_,rfl⟩
 rw [hl]
 have H : Hid (lifeB st = l):=hl
 clear hl
 cases l
 · go_enter Tryz.func127,Tryz.ntmps127
   go_wp2_with (go_at_call 130;refine (dlives_any st A G V _).mono ?_;rintro e w1 ⟨rfl,b1⟩;rw [H.out])
   go_ret
   exact ⟨rfl,grow (grow_alloc (grow_alloc (Below.refl _ _) _) _) b1⟩
 · go_enter Tryz.func127,Tryz.ntmps127
   have x0:=(At.new w 87 [.int .i64 st,.int .i64 A,.int .i64 G,.int .i64 V]).grown (grow1 _ (.cells #[.int .i64 x,.int .i64 G'] 154))
   have x1:=At.new2 w (.cells #[.int .i64 st,.int .i64 A,.int .i64 G,.int .i64 V] 87) 154 [.int .i64 x,.int .i64 G']
   go_wp2_with (go_at_call 130;refine (dlives_any st A G V _).mono ?_;rintro e w1 ⟨rfl,b1⟩;rw [H.out];have z0:=(x0.grown b1).at0 2 rfl;have z1:=(x1.grown b1).at0 1 rfl)
   go_ret
   exact ⟨rfl,grow (grow_alloc (grow_alloc (Below.refl _ _) _) _) b1⟩
theorem dlast_any (t n k m g p r G : Int) (w : World) :
 Calls Tryz.prog 136 #[.agg #[.int .i64 t,.int .i64 n,.int .i64 k,.int .i64 m,.int .i64 g,.int .i64 p,.int .i64 r],.int .i64 G] w fun e w'=>e = .returned (.bool (decide (g <= G))) /\ Below w.heap.size w w':=by
 go_enter Tryz.func136,Tryz.ntmps136
 go_wp2
 go_ret
 exact ⟨rfl,grow_alloc (Below.refl _ _) _⟩
theorem dbehind_last (t n k m g p r st A G V : Int) (h : g <= G) (w : World) :
 Calls Tryz.prog 137 #[.agg #[.int .i64 t,.int .i64 n,.int .i64 k,.int .i64 m,.int .i64 g,.int .i64 p,.int .i64 r],.agg #[.int .i64 st,.int .i64 A,.int .i64 G,.int .i64 V]] w fun e w'=>e = .returned (.agg #[.int .i64 3,.int .i64 0,.int .i64 G,.int .i64 0]) /\ Below w.heap.size w w':=by
 have hd : decide (g <= G) = true:=decide_eq_true h
 have x1:=(At.new2 w (.cells #[.int .i64 t,.int .i64 n,.int .i64 k,.int .i64 m,.int .i64 g,.int .i64 p,.int .i64 r] 24) 87 [.int .i64 st,.int .i64 A,.int .i64 G,.int .i64 V]).grown (grow1 _ (.cells #[.int .i64 0,.int .i64 0,.int .i64 0,.int .i64 0] 87))
 have x2:=At.new3 w (.cells #[.int .i64 t,.int .i64 n,.int .i64 k,.int .i64 m,.int .i64 g,.int .i64 p,.int .i64 r] 24) (.cells #[.int .i64 st,.int .i64 A,.int .i64 G,.int .i64 V] 87) 87 [.int .i64 0,.int .i64 0,.int .i64 0,.int .i64 0]
 go_enter Tryz.func137,Tryz.ntmps137
 go_wp2_with (go_at_call 136;refine (dlast_any _ _ _ _ _ _ _ _ _).mono ?_;rintro e w1 ⟨rfl,b1⟩;rw [hd];have z0:=(x1.grown b1).at0 2 rfl;have x3:=x2.grown b1;have q:=x3.fz;have y0:=x3.at0 0 rfl;have y1:=x3.at0 1 rfl;have y2:=x3.at0 2 rfl;have y3:=x3.at0 3 rfl)
 refine bodyPost_ret (v:=.agg #[.int .i64 3,.int .i64 0,.int .i64 G,.int .i64 0]) (by simp [results,Tryz.results137,go_sem,y0,y1,y2,y3]) rfl ⟨rfl,?_⟩
 exact below_setIn (below_setIn (below_setIn (below_setIn (grow (grow_alloc (grow_alloc (grow_alloc (Below.refl _ _) _) _) _) b1) (by omega) _ _) (by omega) _ _) (by omega) _ _) (by omega) _ _
theorem dbehind_next (t n k m g p r st A G V : Int) (h : G < g) (g1 : g <= 65535) (h0 : 0 <= G) (w : World) :
 Calls Tryz.prog 137 #[.agg #[.int .i64 t,.int .i64 n,.int .i64 k,.int .i64 m,.int .i64 g,.int .i64 p,.int .i64 r],.agg #[.int .i64 st,.int .i64 A,.int .i64 G,.int .i64 V]] w fun e w'=>e = .returned (.agg #[.int .i64 0,.int .i64 0,.int .i64 (G + 1),.int .i64 0]) /\ Below w.heap.size w w':=by
 have hd : decide (g <= G) = false:=decide_eq_false (by omega)
 have x1:=(At.new2 w (.cells #[.int .i64 t,.int .i64 n,.int .i64 k,.int .i64 m,.int .i64 g,.int .i64 p,.int .i64 r] 24) 87 [.int .i64 st,.int .i64 A,.int .i64 G,.int .i64 V]).grown (grow1 _ (.cells #[.int .i64 0,.int .i64 0,.int .i64 0,.int .i64 0] 87))
 have x2:=At.new3 w (.cells #[.int .i64 t,.int .i64 n,.int .i64 k,.int .i64 m,.int .i64 g,.int .i64 p,.int .i64 r] 24) (.cells #[.int .i64 st,.int .i64 A,.int .i64 G,.int .i64 V] 87) 87 [.int .i64 0,.int .i64 0,.int .i64 0,.int .i64 0]
 go_enter Tryz.func137,Tryz.ntmps137
 go_wp2_with (go_at_call 136;refine (dlast_any _ _ _ _ _ _ _ _ _).mono ?_;rintro e w1 ⟨rfl,b1⟩;rw [hd];have z0:=(x1.grown b1).at0 2 rfl;have x3:=x2.grown b1;have q:=x3.fz;have y0:=x3.at0 0 rfl;have y1:=x3.at0 1 rfl;have y2:=x3.at0 2 rfl;have y3:=x3.at0 3 rfl)
 refine bodyPost_ret (v:=.agg #[.int .i64 0,.int .i64 0,.int .i64 (G + 1),.int .i64 0]) (by simp [results,Tryz.results137,go_sem,y0,y1,y2,y3]) rfl ⟨rfl,?_⟩
 exact below_setIn (below_setIn (below_setIn (below_setIn (grow (grow_alloc (grow_alloc (grow_alloc (Below.refl _ _) _) _) _) b1) (by omega) _ _) (by omega) _ _) (by omega) _ _) (by omega) _ _
theorem dstands_any {w : World} {L : Loc} {s : Mm} {t n k m : Nat} {g p r : Int} (h : MemAt w L s) (hG : Good t n k m g p r) (hl : arenaLen t n k m <= s.n) (who : Int) (x : Nat) :
 Calls Tryz.prog 118 #[.agg #[.int .i64 t,.int .i64 n,.int .i64 k,.int .i64 m,.int .i64 g,.int .i64 p,.int .i64 r,.pointer (some ⟨L.p,0,none⟩),.int .i64 who],.int .i64 x] w fun e w'=>e = .returned (.bool (decide ((x : Int) < n))) /\ Below w.heap.size w w':=by
 go_enter Tryz.func118,Tryz.ntmps118
 go_wp2
 refine wp_over (fun W=>MemAt W L s /\ BoxV W w.heap.size t n k m g p r L.p who /\ Below w.heap.size w W) ⟨h.alloc _,BoxV.new,grow1 _ _⟩ ?_
 rintro W ⟨m1,v1,o1⟩
 refine wp_region_rely Grown [.val (.pointer (some ⟨w.heap.size,0,none⟩)),.val (.agg #[.int .i64 t,.int .i64 n,.int .i64 k,.int .i64 m,.int .i64 g,.int .i64 p,.int .i64 r]),.val (.bool true),.val (.bool true),.val (.pointer (some ⟨w.heap.size,7,none⟩)),.val (.pointer (some ⟨L.p,0,none⟩)),.val (.int .i64 s.n),.val (.pointer (some ⟨w.heap.size,0,none⟩)),.val (.agg #[.int .i64 t,.int .i64 n,.int .i64 k,.int .i64 m,.int .i64 g,.int .i64 p,.int .i64 r]),.val (.int .i64 (arenaLen t n k m : Nat)),.val (.bool true),.val (.bool true),.val (.bool true),.val (.int .i64 x),.val (.bool true),.val (.bool true),.val (.bool true),.val (.int .i64 x),.val (.pointer (some ⟨w.heap.size,0,none⟩)),.val (.pointer (some ⟨w.heap.size,1,none⟩)),.val (.int .i64 n),.val (.bool (decide ((x : Int) < n))),.val (.bool (decide ((x : Int) < n))),.val (.bool (decide ((x : Int) < n)))] (by kernel_rfl) Grown.refl Grown.trans (by kernel_rfl) (by kernel_rfl) (by kernel_rfl) ?_
 simp only [relyAll,Act.put,List.setIfInBounds_toArray,List.set_cons_zero,List.set_cons_succ]
 refine ⟨?_,?_,?_,?_,?_,?_,?_,?_,?_,?_,?_,?_,?_,?_,?_,?_,?_,?_,?_,?_,?_,?_,?_,?_,?_⟩
 · intros;apply ol;go_simp;exact gl
 · intro w' hg _
   apply ol
   obtain ⟨y0,y1,y2,y3,y4,y5,y6,y7,y8⟩:=(v1.grown ((Below.refl _ _).drew)).grown hg
   go_simp
   exact gl
 · intro w' hg _
   apply ol
   go_simp
   refine (lcheck_yes hG _).mono ?_
   rintro e w'' ⟨rfl,b9⟩
   exact ⟨_,rfl,b9,rfl⟩
 · intros;apply ol;go_simp;exact gl
 · intros;apply ol;go_simp;exact gl
 · intro w' hg _
   apply ol
   obtain ⟨y0,y1,y2,y3,y4,y5,y6,y7,y8⟩:=(v1.grown ((Below.refl _ _).drew)).grown hg
   go_simp
   exact gl
 · intro w' hg _
   apply ol
   go_simp
   refine (len_any (m1.drew.below hg)).mono ?_
   rintro e w'' ⟨rfl,rfl⟩
   exact ⟨_,rfl,Grown.refl _,rfl⟩
 · intros;apply ol;go_simp;exact gl
 · intro w' hg _
   apply ol
   obtain ⟨y0,y1,y2,y3,y4,y5,y6,y7,y8⟩:=(v1.grown ((Below.refl _ _).drew)).grown hg
   go_simp
   exact gl
 · intro w' hg _
   apply ol
   go_simp
   refine (llen_good hG _).mono ?_
   rintro e w'' ⟨rfl,b9⟩
   exact ⟨_,rfl,b9,rfl⟩
 · intro w' hg _
   apply ol
   have z : decide ((s.n : Int) ≥ ((arenaLen t n k m : Nat) : Int)) = true:=decide_eq_true (by omega)
   go_simp
   exact gl
 · intros;apply ol;go_simp;exact gl
 · intros;apply ol;go_simp;exact gl
 · intros;apply ol;go_simp;exact gl
 · intro w' hg _
   apply ol
   have z : decide ((x : Int) ≥ 0) = true:=decide_eq_true (by omega)
   go_simp
   exact gl
 · intros;apply ol;go_simp;exact gl
 · intros;apply ol;go_simp;exact gl
 · intros;apply ol;go_simp;exact gl
 · intros;apply ol;go_simp;exact gl
 · intros;apply ol;go_simp;exact gl
 · intro w' hg _
   apply ol
   obtain ⟨y0,y1,y2,y3,y4,y5,y6,y7,y8⟩:=(v1.grown ((Below.refl _ _).drew)).grown hg
   go_simp
   exact gl
 · intros;apply ol;go_simp;exact gl
 · intros;apply ol;go_simp;exact gl
 · intros;apply ol;go_simp;exact gl
 intro w5 hg _
 go_wp2
 go_ret
 exact ⟨rfl,grow (o1.trans ((Below.refl _ _).drew)) hg⟩
def chunkOf (t n k m : Nat) (a : Int) : Int:=if a < 6 + t + n * 2 + k * 3 then -1 else if (a - (6 + t + n * 2 + k * 3)) / m < k then (a - (6 + t + n * 2 + k * 3)) / m else -1
theorem lof_any {t n k m : Nat} {g p r : Int} (hG : Good t n k m g p r) (a : Int) (ha : a <= 9223372036854775807) (w : World) :
 Calls Tryz.prog 126 #[.agg #[.int .i64 t,.int .i64 n,.int .i64 k,.int .i64 m,.int .i64 g,.int .i64 p,.int .i64 r],.int .i64 a] w fun e w'=>e = .returned (.int .i64 (chunkOf t n k m a)) /\ Below w.heap.size w w':=by
 have n0:=hG.n0
 unfold chunkOf
 by_cases h : a < 6 + t + n * 2 + k * 3
 · rw [if_pos h]
   exact lof_low _ _ _ _ _ _ _ _ _ hG.arena h
 · rw [if_neg h]
   by_cases h2 : (a - (6 + t + n * 2 + k * 3)) / m < k
   · rw [if_pos h2]
     exact lof_in _ _ _ _ _ _ _ _ _ _ hG.arena (by omega) (by omega) ha rfl h2
   · rw [if_neg h2]
     exact lof_high _ _ _ _ _ _ _ _ _ _ hG.arena (by omega) (by omega) ha rfl (by omega)
theorem chunkOf_in {t n k m i u : Nat} (hi : i < k) (hu : u < m) : chunkOf t n k m ((base t n k m i + u : Nat) : Int) = i:=by
 have e : (((base t n k m i + u : Nat) : Int) - (6 + t + n * 2 + k * 3)) / m = i:=by
  have : ((base t n k m i + u : Nat) : Int) - (6 + t + n * 2 + k * 3) = u + m * (i : Int):=by
   unfold base
   have hc : (m : Int) * (i : Int) = (i : Int) * m:=Int.mul_comm _ _
   simp only [Int.natCast_add,Int.natCast_mul]
   omega
  rw [this,Int.add_mul_ediv_left _ _ (by omega),Int.ediv_eq_zero_of_lt (by omega) (by omega),Int.zero_add]
 unfold chunkOf
 rw [if_neg (by unfold base;omega),e,if_pos (by omega)]
theorem hat_any {w : World} {b o : Nat} (st A G V j : Int) (hz : w.cell? ⟨b,o + 3,none⟩ = some (.int .i64 j)) (a0 : 0 <= A) (a1 : A <= 1048575) (j0 : 0 <= j) (j1 : j <= 65536) :
 Calls Tryz.prog 139 #[.pointer (some ⟨b,o,none⟩),.agg #[.int .i64 st,.int .i64 A,.int .i64 G,.int .i64 V]] w fun e w'=>e = .returned (.int .i64 (A + 1 + j)) /\ Below w.heap.size w w':=by
 go_enter Tryz.func139,Tryz.ntmps139
 go_wp2
 refine wp_over (fun W=>W.cell? ⟨b,o + 3,none⟩ = some (.int .i64 j) /\ At W w.heap.size 0 87 #[.int .i64 st,.int .i64 A,.int .i64 G,.int .i64 V] [.int .i64 st,.int .i64 A,.int .i64 G,.int .i64 V] /\ Below w.heap.size w W) ⟨keep' (grow1 _ _) hz,At.new _ _ _,grow1 _ _⟩ ?_
 rintro W ⟨i1,x1,o1⟩
 refine wp_region_rely Grown [.val (.pointer (some ⟨w.heap.size,1,none⟩)),.val (.int .i64 A),.val (.int .i64 (A + 1)),.val (.pointer (some ⟨b,o,none⟩)),.val (.pointer (some ⟨b,o,none⟩)),.val (.pointer (some ⟨b,o + 3,none⟩)),.val (.int .i64 j),.val (.int .i64 (A + 1 + j)),.val (.int .i64 (A + 1 + j))] (by kernel_rfl) Grown.refl Grown.trans (by kernel_rfl) (by kernel_rfl) (by kernel_rfl) ?_
 simp only [relyAll,Act.put,List.setIfInBounds_toArray,List.set_cons_zero,List.set_cons_succ]
 refine ⟨?_,?_,?_,?_,?_,?_,?_,?_,?_,?_⟩
 · intros;apply ol;go_simp;exact gl
 · intro w' hg _
   apply ol
   have z:=(x1.drew.grown hg).at0 1 rfl
   go_simp
   exact gl
 · intro w' hg _
   apply ol
   go_simp
   exact ⟨Grown.refl _,congrArg (Value.int .i64) (by rw [IntKind.wrap_i64];omega)⟩
 · intros;apply ol;go_simp;exact gl
 · intros;apply ol;go_simp;exact gl
 · intros;apply ol;go_simp;exact gl
 · intro w' hg _
   apply ol
   have z:=keep' hg (keep' ((Below.refl _ _).drew) i1)
   go_simp
   exact gl
 · intro w' hg _
   apply ol
   go_simp
   exact ⟨Grown.refl _,congrArg (Value.int .i64) (by rw [IntKind.wrap_i64];omega)⟩
 · intros;apply ol;go_simp;exact gl
 intro w5 hg _
 go_wp2
 go_ret
 exact ⟨rfl,grow (o1.trans ((Below.refl _ _).drew)) hg⟩
theorem hcells_ok {w : World} {L : Loc} {b o : Nat} {t n k m : Nat} {g p r : Int} (hG : Good t n k m g p r) (who st A G V Z i : Int) (hz : w.cell? ⟨b,o + 2,none⟩ = some (.int .i64 Z)) (a0 : 0 <= A) (a1 : A <= 1048575) (z0 : 1 <= Z) (z1 : Z <= 16) (i0 : 0 <= i) (h1 : chunkOf t n k m A = i) (h2 : chunkOf t n k m (A + Z) = i) :
 Calls Tryz.prog 131 #[.pointer (some ⟨b,o,none⟩),.agg #[.int .i64 t,.int .i64 n,.int .i64 k,.int .i64 m,.int .i64 g,.int .i64 p,.int .i64 r,.pointer (some ⟨L.p,0,none⟩),.int .i64 who],.agg #[.int .i64 st,.int .i64 A,.int .i64 G,.int .i64 V]] w fun e w'=>e = .returned (.int .i64 Z) /\ Below w.heap.size w w':=by
 obtain ⟨κ,hκ⟩ : ∃ κ,classOf Z = κ:=⟨_,rfl⟩
 have κ0 : 0 <= κ:=by
  rw [<- hκ];unfold classOf
  rw [if_neg (by omega)]
  repeat' split
  all_goals omega
 have of1:=fun w=>lof_any hG A (by omega) w
 have of2:=fun w=>lof_any hG (A + Z) (by omega) w
 have lc:=fun w=>lclass_any Z w
 rw [h1] at of1
 rw [h2] at of2
 rw [hκ] at lc
 clear h1 h2 hκ
 go_enter Tryz.func131,Tryz.ntmps131
 go_wp2_with (go_at_call 126;refine (of1 _).mono ?_;rintro e w1 ⟨rfl,b1⟩)
 refine wp_over (fun W=>W.cell? ⟨b,o + 2,none⟩ = some (.int .i64 Z) /\ BoxV W w.heap.size t n k m g p r L.p who /\ At W (w.heap.size + 1) 0 87 #[.int .i64 st,.int .i64 A,.int .i64 G,.int .i64 V] [.int .i64 st,.int .i64 A,.int .i64 G,.int .i64 V] /\ Below w.heap.size w W) ⟨keep' b1 (keep' (grow1 _ _) (keep' (grow1 _ _) hz)),(BoxV.newB _).grown b1,(At.new2 _ _ _ _).grown b1,grow (grow_alloc (grow1 _ _) _) b1⟩ ?_
 clear b1 w1
 rintro W ⟨i1,v1,x1,o1⟩
 refine wp_region_rely Grown [.val (.pointer (some ⟨b,o,none⟩)),.val (.pointer (some ⟨b,o,none⟩)),.val (.pointer (some ⟨b,o + 2,none⟩)),.val (.int .i64 Z),.val (.int .i64 κ),.val (.bool false),.val (.bool false),.val (.int .i64 i),.val (.bool false),.val (.bool false),.val (.bool false),.val (.pointer (some ⟨w.heap.size,0,none⟩)),.val (.agg #[.int .i64 t,.int .i64 n,.int .i64 k,.int .i64 m,.int .i64 g,.int .i64 p,.int .i64 r]),.val (.pointer (some ⟨w.heap.size + 1,1,none⟩)),.val (.int .i64 A),.val (.pointer (some ⟨b,o,none⟩)),.val (.pointer (some ⟨b,o,none⟩)),.val (.pointer (some ⟨b,o + 2,none⟩)),.val (.int .i64 Z),.val (.int .i64 (A + Z)),.val (.int .i64 i),.val (.int .i64 i),.val (.bool false),.val (.bool false)] (by kernel_rfl) Grown.refl Grown.trans (by kernel_rfl) (by kernel_rfl) (by kernel_rfl) ?_
 simp only [relyAll,Act.put,List.setIfInBounds_toArray,List.set_cons_zero,List.set_cons_succ]
 refine ⟨?_,?_,?_,?_,?_,?_,?_,?_,?_,?_,?_,?_,?_,?_,?_,?_,?_,?_,?_,?_,?_,?_,?_,?_,?_⟩
 · intros;apply ol;go_simp;exact gl
 · intros;apply ol;go_simp;exact gl
 · intros;apply ol;go_simp;exact gl
 · intro w' hg _
   apply ol
   have z:=keep' hg (keep' ((Below.refl _ _).drew) i1)
   go_simp
   exact gl
 · intro w' hg _
   apply ol
   go_simp
   refine (lc _).mono ?_
   rintro e w'' ⟨rfl,rfl⟩
   exact ⟨_,rfl,Grown.refl _,rfl⟩
 · intro w' hg _
   apply ol
   have z : decide (κ < 0) = false:=decide_eq_false (by omega)
   go_simp
   exact gl
 · intros;apply ol;go_simp;exact gl
 · intros;apply ol;go_simp;exact gl
 · intro w' hg _
   apply ol
   have z : decide (i < 0) = false:=decide_eq_false (by omega)
   go_simp
   exact gl
 · intros;apply ol;go_simp;exact gl
 · intros;apply ol;go_simp;exact gl
 · intros;apply ol;go_simp;exact gl
 · intro w' hg _
   apply ol
   obtain ⟨y0,y1,y2,y3,y4,y5,y6,y7,y8⟩:=(v1.grown ((Below.refl _ _).drew)).grown hg
   go_simp
   exact gl
 · intros;apply ol;go_simp;exact gl
 · intro w' hg _
   apply ol
   have z:=(x1.drew.grown hg).at0 1 rfl
   go_simp
   exact gl
 · intros;apply ol;go_simp;exact gl
 · intros;apply ol;go_simp;exact gl
 · intros;apply ol;go_simp;exact gl
 · intro w' hg _
   apply ol
   have z:=keep' hg (keep' ((Below.refl _ _).drew) i1)
   go_simp
   exact gl
 · intro w' hg _
   apply ol
   go_simp
   exact ⟨Grown.refl _,congrArg (Value.int .i64) (by rw [IntKind.wrap_i64];omega)⟩
 · intro w' hg _
   apply ol
   go_simp
   refine (of2 _).mono ?_
   rintro e w'' ⟨rfl,b9⟩
   exact ⟨_,rfl,b9,rfl⟩
 · intros;apply ol;go_simp;exact gl
 · intros;apply ol;go_simp;exact gl
 · intros;apply ol;go_simp;exact gl
 intro w5 hg _
 have z:=keep' hg (keep' ((Below.refl _ _).drew) i1)
 go_wp2
 go_ret
 exact ⟨rfl,grow (o1.trans ((Below.refl _ _).drew)) hg⟩
end Go.Proofs.YtlolfmoolgenpaaGreat

namespace Go.Proofs.YtlolfmoolgenpaaGreat
open Go.RowKit
set_option maxRecDepth 20000
def HpV (x was Z j se : Int) (ld ov wn : Bool) : List Value:=[.int .i64 x,.int .u64 was,.int .i64 Z,.int .i64 j,.int .u64 se,.bool ld,.bool ov,.bool wn]
def Hact (L : Loc) (b o : Nat) (T : TypeId) (cs : Array Value) (w w' : World) (X : Mm -> List Value -> Prop) : Prop :=
 ∃ s' cs' l',MemAt w' L s' /\ Only (L.and b) w w' /\ At w' b o T cs' l' /\ Same o 8 cs cs' /\ X s' l'
structure CellIs (u vl : Int) (fz : Bool) (vr : Int) : Prop where
 u0 : 0 <= u
 u1 : u <= 18446744073709551615
 vl : u % 1099511627776 = vl
 fz : decide (9223372036854775808 <= u) = fz
 vr : (if 9223372036854775808 <= u then u / 1099511627776 % 4194304 else 0) = vr
theorem CellIs.call {u vl vr : Int} {fz : Bool} (h : CellIs u vl fz vr) (w : World) :
 Calls Tryz.prog 138 #[.int .u64 u] w fun e w'=>e = .returned (.agg #[.int .i64 vl,.bool fz,.int .i64 vr]) /\ Below w.heap.size w w':=by
 have e:=cell_any u w h.u0 h.u1
 rwa [h.vl,h.fz,h.vr] at e
structure SlotIs (v st A G V : Int) : Prop where
 v0 : 0 <= v
 v1 : v <= 18446744073709551615
 st : v % 8 = st
 ad : v / 8 % 1048576 = A
 gn : v / 8388608 % 65536 = G
 vr : v / 549755813888 % 4194304 = V
theorem SlotIs.call {v st A G V : Int} (h : SlotIs v st A G V) (w : World) :
 Calls Tryz.prog 82 #[.int .u64 v] w fun e w'=>e = .returned (.agg #[.int .i64 st,.int .i64 A,.int .i64 G,.int .i64 V]) /\ Below w.heap.size w w':=by
 have e:=slot_any v w h.v0 h.v1
 rwa [h.st,h.ad,h.gn,h.vr] at e
set_option maxHeartbeats 400000 in
theorem hload_pass {w : World} {L : Loc} {s : Mm} {b o : Nat} {T : TypeId} {cs : Array Value} {t n k m : Nat} {g p r : Int} {x was Z se : Int} {j : Nat} {ld ov wn : Bool} (h : MemAt w L s) (hb : ¬ L.has b) (hi : At w b o T cs (HpV x was Z j se ld ov wn)) (who : Int) (st : Int) (A : Nat) (G V : Int) (a1 : A <= 1048575) (j1 : j <= 16) {u vl vr : Int} {fz : Bool} (hu : s.wd (A + 1 + j) = u) (hc : CellIs u vl fz vr) (hf : fz = true) (hv : vr = V) (hn : (A + 1 + j) < s.n) :
 Calls Tryz.prog 134 #[.pointer (some ⟨b,o,none⟩),.agg #[.int .i64 t,.int .i64 n,.int .i64 k,.int .i64 m,.int .i64 g,.int .i64 p,.int .i64 r,.pointer (some ⟨L.p,0,none⟩),.int .i64 who],.agg #[.int .i64 st,.int .i64 A,.int .i64 G,.int .i64 V]] w fun e w'=>e = .returned (.tuple #[]) /\ Hact L b o T cs w w' (fun s' l'=>s' = ((s.by who).step (A + 1 + j) (s.wd (A + 1 + j))) /\ l' = HpV x was Z (j + 1) u ld ov wn):=by
 have HU : Hid (s.wd (A + 1 + j) = u):=hu
 have cc:=hc.call
 clear hu hc
 subst hf
 have hv:=hv.symm
 subst hv
 have hbv : ¬ L.has w.heap.size:=fun hh=>by have:=h.lt _ hh;omega
 have hbb : ¬ w.heap.size = b:=fun hh=>by have:=hi.lt;omega
 have hbv1 : ¬ L.has (w.heap.size + 1):=fun hh=>by have:=h.lt _ hh;omega
 have hbb1 : ¬ w.heap.size + 1 = b:=fun hh=>by have:=hi.lt;omega
 go_enter Tryz.func134,Tryz.ntmps134
 go_wp2
 refine wp_over (fun W=>MemAt W L s /\ At W b o T cs (HpV x was Z j se ld ov wn) /\ BoxV W w.heap.size t n k m g p r L.p who /\ At W (w.heap.size + 1) 0 87 #[.int .i64 st,.int .i64 A,.int .i64 G,.int .i64 V] [.int .i64 st,.int .i64 A,.int .i64 G,.int .i64 V] /\ Only (L.and b) w W) ⟨(h.alloc _).alloc _,(hi.grown (grow1 _ _)).grown (grow1 _ _),BoxV.newB _,At.new2 _ _ _ _,((Only.refl _ _).alloc _).alloc _⟩ ?_
 rintro W ⟨m1,i1,v1,x1,o1⟩
 refine wp_region_phase (OnlyBut L b (o + 4)) Grown (phAt L b o T cs (cs.setIfInBounds (o + 4) (.int .u64 u)) s ((s.by who).step (A + 1 + j) (s.wd (A + 1 + j))) (HpV x was Z j se ld ov wn) (HpV x was Z j u ld ov wn)) [5,8] [.val (.pointer (some ⟨b,o,none⟩)),.val (.agg #[.int .i64 t,.int .i64 n,.int .i64 k,.int .i64 m,.int .i64 g,.int .i64 p,.int .i64 r,.pointer (some ⟨L.p,0,none⟩),.int .i64 who]),.val (.pointer (some ⟨b,o,none⟩)),.val (.agg #[.int .i64 st,.int .i64 A,.int .i64 G,.int .i64 V]),.val (.int .i64 (((A + 1 + j) : Nat) : Int)),.val (.int .u64 u),.val (.pointer (some ⟨b,o,none⟩)),.val (.pointer (some ⟨b,o + 4,none⟩)),.that (fun _ _=>True) (fun _ _ _ _ _=>trivial)]
  (by kernel_rfl) OnlyBut.refl OnlyBut.trans OnlyBut.ofGrown phAt_grown ⟨m1.drew,i1.drew⟩ (by kernel_rfl) (by kernel_rfl) (by kernel_rfl) (by kernel_rfl) (by kernel_rfl) ?_
 simp only [phaseAll,Act.put,List.setIfInBounds_toArray,List.set_cons_zero,List.set_cons_succ]
 refine ⟨?_,?_,?_,?_,?_,?_,?_,?_,?_,?_⟩
 · intros;apply ol;go_simp;exact gl
 · intro w' hR _
   apply ol
   obtain ⟨y0,y1,y2,y3,y4,y5,y6,y7,y8⟩:=(v1.grown ((Below.refl _ _).drew)).only hR.only (fun hh=>hh.elim hbv hbb)
   go_simp
   exact gl
 · intros;apply ol;go_simp;exact gl
 · intro w' hR _
   apply ol
   have z0:=(x1.drew.only hR.only (fun hh=>hh.elim hbv1 hbb1)).at0 0 rfl
   have z1:=(x1.drew.only hR.only (fun hh=>hh.elim hbv1 hbb1)).at0 1 rfl
   have z2:=(x1.drew.only hR.only (fun hh=>hh.elim hbv1 hbb1)).at0 2 rfl
   have z3:=(x1.drew.only hR.only (fun hh=>hh.elim hbv1 hbb1)).at0 3 rfl
   go_simp
   exact gl
 · intro w' hR _
   apply ol
   go_simp
   refine (hat_any st A G V j (hR.keep (j:=o + 3) (by omega) (i1.drew.cell 3 rfl)) (by omega) (by omega) (by omega) (by omega)).mono ?_
   rintro e w'' ⟨rfl,b9⟩
   exact ⟨_,rfl,b9,congrArg (Value.int .i64) (by omega)⟩
 · intro w' hR _ hP
   apply ol
   go_simp
   refine (eload_in (s:=s) hP.1 _ _ _ _ _ _ _ _ (A + 1 + j) hn).mono ?_
   rintro e w'' ⟨rfl,m2,o2⟩
   exact ⟨_,rfl,⟨OnlyBut.ofOnly o2 hb,m2,hP.2.only o2 hb⟩,by simp [Want.pred,HU.out]⟩
 · intros;apply ol;go_simp;exact gl
 · intros;apply ol;go_simp;exact gl
 · intro w' hR _ hP
   apply ol
   have z0:=hP.2.cell 4 rfl
   have z1:=hP.2.fz
   go_simp
   exact ⟨⟨OnlyBut.set _ _,hP.1.setIn hb _ _,hP.2.set 4 _⟩,trivial⟩
 intro vv w2 hR hP _
 obtain ⟨m2,i2⟩ : MemAt w2 L ((s.by who).step (A + 1 + j) (s.wd (A + 1 + j))) /\ At w2 b o T (cs.setIfInBounds (o + 4) (.int .u64 u)) (HpV x was Z j u ld ov wn):=hP
 have o2 : Only (L.and b) w w2:=o1.drew.trans hR.only
 have x2:=x1.drew.only hR.only (fun hh=>hh.elim hbv1 hbb1)
 have s2 : Same o 8 cs (cs.setIfInBounds (o + 4) (.int .u64 u)):=Same.refl.set (by omega) _
 have k4:=i2.cell 4 rfl
 clear hR o1 v1 m1 i1 x1
 go_wp2_with (go_at_call 138;refine (cc _).mono ?_;rintro e w3 ⟨rfl,b3⟩;have i4:=(i2.grown b3).grown (grow1 _ (.cells #[.int .i64 vl,.bool true,.int .i64 V] 185));have x4:=(x2.grown b3).grown (grow1 _ (.cells #[.int .i64 vl,.bool true,.int .i64 V] 185));have z3:=x4.at0 3 rfl;have y3:=i4.cell 3 rfl;have y5:=i4.cell 5 rfl;have yf:=i4.fz)
 refine bodyPost_ret (results_none rfl _ _ _) rfl ?_
 exact ⟨rfl,_,_,_,((m2.below b3).alloc _).setIn hb _ _,((o2.trans (Only.ofGrown b3)).alloc _).set _ _,i4.set 3 _,s2.set (by omega) _,rfl,rfl⟩
set_option maxHeartbeats 400000 in
theorem hload_keep {w : World} {L : Loc} {s : Mm} {b o : Nat} {T : TypeId} {cs : Array Value} {t n k m : Nat} {g p r : Int} {x was Z se : Int} {j : Nat} {ld ov wn : Bool} (h : MemAt w L s) (hb : ¬ L.has b) (hi : At w b o T cs (HpV x was Z j se ld ov wn)) (who : Int) (st : Int) (A : Nat) (G V : Int) (a1 : A <= 1048575) (j1 : j <= 16) {u vl vr : Int} {fz : Bool} (hu : s.wd (A + 1 + j) = u) (hc : CellIs u vl fz vr) (hf : fz = false) (hn : (A + 1 + j) < s.n) :
 Calls Tryz.prog 134 #[.pointer (some ⟨b,o,none⟩),.agg #[.int .i64 t,.int .i64 n,.int .i64 k,.int .i64 m,.int .i64 g,.int .i64 p,.int .i64 r,.pointer (some ⟨L.p,0,none⟩),.int .i64 who],.agg #[.int .i64 st,.int .i64 A,.int .i64 G,.int .i64 V]] w fun e w'=>e = .returned (.tuple #[]) /\ Hact L b o T cs w w' (fun s' l'=>s' = ((s.by who).step (A + 1 + j) (s.wd (A + 1 + j))) /\ l' = HpV x was Z j u true ov wn):=by
 have HU : Hid (s.wd (A + 1 + j) = u):=hu
 have cc:=hc.call
 clear hu hc
 subst hf
 have hbv : ¬ L.has w.heap.size:=fun hh=>by have:=h.lt _ hh;omega
 have hbb : ¬ w.heap.size = b:=fun hh=>by have:=hi.lt;omega
 have hbv1 : ¬ L.has (w.heap.size + 1):=fun hh=>by have:=h.lt _ hh;omega
 have hbb1 : ¬ w.heap.size + 1 = b:=fun hh=>by have:=hi.lt;omega
 go_enter Tryz.func134,Tryz.ntmps134
 go_wp2
 refine wp_over (fun W=>MemAt W L s /\ At W b o T cs (HpV x was Z j se ld ov wn) /\ BoxV W w.heap.size t n k m g p r L.p who /\ At W (w.heap.size + 1) 0 87 #[.int .i64 st,.int .i64 A,.int .i64 G,.int .i64 V] [.int .i64 st,.int .i64 A,.int .i64 G,.int .i64 V] /\ Only (L.and b) w W) ⟨(h.alloc _).alloc _,(hi.grown (grow1 _ _)).grown (grow1 _ _),BoxV.newB _,At.new2 _ _ _ _,((Only.refl _ _).alloc _).alloc _⟩ ?_
 rintro W ⟨m1,i1,v1,x1,o1⟩
 refine wp_region_phase (OnlyBut L b (o + 4)) Grown (phAt L b o T cs (cs.setIfInBounds (o + 4) (.int .u64 u)) s ((s.by who).step (A + 1 + j) (s.wd (A + 1 + j))) (HpV x was Z j se ld ov wn) (HpV x was Z j u ld ov wn)) [5,8] [.val (.pointer (some ⟨b,o,none⟩)),.val (.agg #[.int .i64 t,.int .i64 n,.int .i64 k,.int .i64 m,.int .i64 g,.int .i64 p,.int .i64 r,.pointer (some ⟨L.p,0,none⟩),.int .i64 who]),.val (.pointer (some ⟨b,o,none⟩)),.val (.agg #[.int .i64 st,.int .i64 A,.int .i64 G,.int .i64 V]),.val (.int .i64 (((A + 1 + j) : Nat) : Int)),.val (.int .u64 u),.val (.pointer (some ⟨b,o,none⟩)),.val (.pointer (some ⟨b,o + 4,none⟩)),.that (fun _ _=>True) (fun _ _ _ _ _=>trivial)]
  (by kernel_rfl) OnlyBut.refl OnlyBut.trans OnlyBut.ofGrown phAt_grown ⟨m1.drew,i1.drew⟩ (by kernel_rfl) (by kernel_rfl) (by kernel_rfl) (by kernel_rfl) (by kernel_rfl) ?_
 simp only [phaseAll,Act.put,List.setIfInBounds_toArray,List.set_cons_zero,List.set_cons_succ]
 refine ⟨?_,?_,?_,?_,?_,?_,?_,?_,?_,?_⟩
 · intros;apply ol;go_simp;exact gl
 · intro w' hR _
   apply ol
   obtain ⟨y0,y1,y2,y3,y4,y5,y6,y7,y8⟩:=(v1.grown ((Below.refl _ _).drew)).only hR.only (fun hh=>hh.elim hbv hbb)
   go_simp
   exact gl
 · intros;apply ol;go_simp;exact gl
 · intro w' hR _
   apply ol
   have z0:=(x1.drew.only hR.only (fun hh=>hh.elim hbv1 hbb1)).at0 0 rfl
   have z1:=(x1.drew.only hR.only (fun hh=>hh.elim hbv1 hbb1)).at0 1 rfl
   have z2:=(x1.drew.only hR.only (fun hh=>hh.elim hbv1 hbb1)).at0 2 rfl
   have z3:=(x1.drew.only hR.only (fun hh=>hh.elim hbv1 hbb1)).at0 3 rfl
   go_simp
   exact gl
 · intro w' hR _
   apply ol
   go_simp
   refine (hat_any st A G V j (hR.keep (j:=o + 3) (by omega) (i1.drew.cell 3 rfl)) (by omega) (by omega) (by omega) (by omega)).mono ?_
   rintro e w'' ⟨rfl,b9⟩
   exact ⟨_,rfl,b9,congrArg (Value.int .i64) (by omega)⟩
 · intro w' hR _ hP
   apply ol
   go_simp
   refine (eload_in (s:=s) hP.1 _ _ _ _ _ _ _ _ (A + 1 + j) hn).mono ?_
   rintro e w'' ⟨rfl,m2,o2⟩
   exact ⟨_,rfl,⟨OnlyBut.ofOnly o2 hb,m2,hP.2.only o2 hb⟩,by simp [Want.pred,HU.out]⟩
 · intros;apply ol;go_simp;exact gl
 · intros;apply ol;go_simp;exact gl
 · intro w' hR _ hP
   apply ol
   have z0:=hP.2.cell 4 rfl
   have z1:=hP.2.fz
   go_simp
   exact ⟨⟨OnlyBut.set _ _,hP.1.setIn hb _ _,hP.2.set 4 _⟩,trivial⟩
 intro vv w2 hR hP _
 obtain ⟨m2,i2⟩ : MemAt w2 L ((s.by who).step (A + 1 + j) (s.wd (A + 1 + j))) /\ At w2 b o T (cs.setIfInBounds (o + 4) (.int .u64 u)) (HpV x was Z j u ld ov wn):=hP
 have o2 : Only (L.and b) w w2:=o1.drew.trans hR.only
 have x2:=x1.drew.only hR.only (fun hh=>hh.elim hbv1 hbb1)
 have s2 : Same o 8 cs (cs.setIfInBounds (o + 4) (.int .u64 u)):=Same.refl.set (by omega) _
 have k4:=i2.cell 4 rfl
 clear hR o1 v1 m1 i1 x1
 go_wp2_with (go_at_call 138;refine (cc _).mono ?_;rintro e w3 ⟨rfl,b3⟩;have i4:=(i2.grown b3).grown (grow1 _ (.cells #[.int .i64 vl,.bool false,.int .i64 vr] 185));have x4:=(x2.grown b3).grown (grow1 _ (.cells #[.int .i64 vl,.bool false,.int .i64 vr] 185));have z3:=x4.at0 3 rfl;have y3:=i4.cell 3 rfl;have y5:=i4.cell 5 rfl;have yf:=i4.fz)
 go_end0
 exact ⟨rfl,_,_,_,((m2.below b3).alloc _).setIn hb _ _,((o2.trans (Only.ofGrown b3)).alloc _).set _ _,i4.set 5 _,s2.set (by omega) _,rfl,rfl⟩
set_option maxHeartbeats 400000 in
theorem hload_anew {w : World} {L : Loc} {s : Mm} {b o : Nat} {T : TypeId} {cs : Array Value} {t n k m : Nat} {g p r : Int} {x was Z se : Int} {j : Nat} {ld ov wn : Bool} (h : MemAt w L s) (hb : ¬ L.has b) (hi : At w b o T cs (HpV x was Z j se ld ov wn)) (who : Int) (st : Int) (A : Nat) (G V : Int) (a1 : A <= 1048575) (j1 : j <= 16) {u vl vr : Int} {fz : Bool} (hu : s.wd (A + 1 + j) = u) (hc : CellIs u vl fz vr) (hf : fz = true) (hv : vr ≠ V) (hn : (A + 1 + j) < s.n) :
 Calls Tryz.prog 134 #[.pointer (some ⟨b,o,none⟩),.agg #[.int .i64 t,.int .i64 n,.int .i64 k,.int .i64 m,.int .i64 g,.int .i64 p,.int .i64 r,.pointer (some ⟨L.p,0,none⟩),.int .i64 who],.agg #[.int .i64 st,.int .i64 A,.int .i64 G,.int .i64 V]] w fun e w'=>e = .returned (.tuple #[]) /\ Hact L b o T cs w w' (fun s' l'=>s' = ((s.by who).step (A + 1 + j) (s.wd (A + 1 + j))) /\ l' = HpV x was Z j u true ov wn):=by
 have HU : Hid (s.wd (A + 1 + j) = u):=hu
 have cc:=hc.call
 clear hu hc
 subst hf
 have hbv : ¬ L.has w.heap.size:=fun hh=>by have:=h.lt _ hh;omega
 have hbb : ¬ w.heap.size = b:=fun hh=>by have:=hi.lt;omega
 have hbv1 : ¬ L.has (w.heap.size + 1):=fun hh=>by have:=h.lt _ hh;omega
 have hbb1 : ¬ w.heap.size + 1 = b:=fun hh=>by have:=hi.lt;omega
 go_enter Tryz.func134,Tryz.ntmps134
 go_wp2
 refine wp_over (fun W=>MemAt W L s /\ At W b o T cs (HpV x was Z j se ld ov wn) /\ BoxV W w.heap.size t n k m g p r L.p who /\ At W (w.heap.size + 1) 0 87 #[.int .i64 st,.int .i64 A,.int .i64 G,.int .i64 V] [.int .i64 st,.int .i64 A,.int .i64 G,.int .i64 V] /\ Only (L.and b) w W) ⟨(h.alloc _).alloc _,(hi.grown (grow1 _ _)).grown (grow1 _ _),BoxV.newB _,At.new2 _ _ _ _,((Only.refl _ _).alloc _).alloc _⟩ ?_
 rintro W ⟨m1,i1,v1,x1,o1⟩
 refine wp_region_phase (OnlyBut L b (o + 4)) Grown (phAt L b o T cs (cs.setIfInBounds (o + 4) (.int .u64 u)) s ((s.by who).step (A + 1 + j) (s.wd (A + 1 + j))) (HpV x was Z j se ld ov wn) (HpV x was Z j u ld ov wn)) [5,8] [.val (.pointer (some ⟨b,o,none⟩)),.val (.agg #[.int .i64 t,.int .i64 n,.int .i64 k,.int .i64 m,.int .i64 g,.int .i64 p,.int .i64 r,.pointer (some ⟨L.p,0,none⟩),.int .i64 who]),.val (.pointer (some ⟨b,o,none⟩)),.val (.agg #[.int .i64 st,.int .i64 A,.int .i64 G,.int .i64 V]),.val (.int .i64 (((A + 1 + j) : Nat) : Int)),.val (.int .u64 u),.val (.pointer (some ⟨b,o,none⟩)),.val (.pointer (some ⟨b,o + 4,none⟩)),.that (fun _ _=>True) (fun _ _ _ _ _=>trivial)]
  (by kernel_rfl) OnlyBut.refl OnlyBut.trans OnlyBut.ofGrown phAt_grown ⟨m1.drew,i1.drew⟩ (by kernel_rfl) (by kernel_rfl) (by kernel_rfl) (by kernel_rfl) (by kernel_rfl) ?_
 simp only [phaseAll,Act.put,List.setIfInBounds_toArray,List.set_cons_zero,List.set_cons_succ]
 refine ⟨?_,?_,?_,?_,?_,?_,?_,?_,?_,?_⟩
 · intros;apply ol;go_simp;exact gl
 · intro w' hR _
   apply ol
   obtain ⟨y0,y1,y2,y3,y4,y5,y6,y7,y8⟩:=(v1.grown ((Below.refl _ _).drew)).only hR.only (fun hh=>hh.elim hbv hbb)
   go_simp
   exact gl
 · intros;apply ol;go_simp;exact gl
 · intro w' hR _
   apply ol
   have z0:=(x1.drew.only hR.only (fun hh=>hh.elim hbv1 hbb1)).at0 0 rfl
   have z1:=(x1.drew.only hR.only (fun hh=>hh.elim hbv1 hbb1)).at0 1 rfl
   have z2:=(x1.drew.only hR.only (fun hh=>hh.elim hbv1 hbb1)).at0 2 rfl
   have z3:=(x1.drew.only hR.only (fun hh=>hh.elim hbv1 hbb1)).at0 3 rfl
   go_simp
   exact gl
 · intro w' hR _
   apply ol
   go_simp
   refine (hat_any st A G V j (hR.keep (j:=o + 3) (by omega) (i1.drew.cell 3 rfl)) (by omega) (by omega) (by omega) (by omega)).mono ?_
   rintro e w'' ⟨rfl,b9⟩
   exact ⟨_,rfl,b9,congrArg (Value.int .i64) (by omega)⟩
 · intro w' hR _ hP
   apply ol
   go_simp
   refine (eload_in (s:=s) hP.1 _ _ _ _ _ _ _ _ (A + 1 + j) hn).mono ?_
   rintro e w'' ⟨rfl,m2,o2⟩
   exact ⟨_,rfl,⟨OnlyBut.ofOnly o2 hb,m2,hP.2.only o2 hb⟩,by simp [Want.pred,HU.out]⟩
 · intros;apply ol;go_simp;exact gl
 · intros;apply ol;go_simp;exact gl
 · intro w' hR _ hP
   apply ol
   have z0:=hP.2.cell 4 rfl
   have z1:=hP.2.fz
   go_simp
   exact ⟨⟨OnlyBut.set _ _,hP.1.setIn hb _ _,hP.2.set 4 _⟩,trivial⟩
 intro vv w2 hR hP _
 obtain ⟨m2,i2⟩ : MemAt w2 L ((s.by who).step (A + 1 + j) (s.wd (A + 1 + j))) /\ At w2 b o T (cs.setIfInBounds (o + 4) (.int .u64 u)) (HpV x was Z j u ld ov wn):=hP
 have o2 : Only (L.and b) w w2:=o1.drew.trans hR.only
 have x2:=x1.drew.only hR.only (fun hh=>hh.elim hbv1 hbb1)
 have s2 : Same o 8 cs (cs.setIfInBounds (o + 4) (.int .u64 u)):=Same.refl.set (by omega) _
 have k4:=i2.cell 4 rfl
 clear hR o1 v1 m1 i1 x1
 go_wp2_with (go_at_call 138;refine (cc _).mono ?_;rintro e w3 ⟨rfl,b3⟩;have i4:=(i2.grown b3).grown (grow1 _ (.cells #[.int .i64 vl,.bool true,.int .i64 vr] 185));have x4:=(x2.grown b3).grown (grow1 _ (.cells #[.int .i64 vl,.bool true,.int .i64 vr] 185));have z3:=x4.at0 3 rfl;have y3:=i4.cell 3 rfl;have y5:=i4.cell 5 rfl;have yf:=i4.fz)
 go_end0
 exact ⟨rfl,_,_,_,((m2.below b3).alloc _).setIn hb _ _,((o2.trans (Only.ofGrown b3)).alloc _).set _ _,i4.set 5 _,s2.set (by omega) _,rfl,rfl⟩
set_option maxHeartbeats 400000 in
theorem hfreeze_yes {w : World} {L : Loc} {s : Mm} {b o : Nat} {T : TypeId} {cs : Array Value} {t n k m : Nat} {g p r : Int} {x was Z se : Int} {j : Nat} {ld ov wn : Bool} (h : MemAt w L s) (hb : ¬ L.has b) (hi : At w b o T cs (HpV x was Z j se ld ov wn)) (who : Int) (st : Int) (A : Nat) (G V : Int) (a1 : A <= 1048575) (j1 : j <= 16) {vl vr : Int} {fz : Bool} (hc : CellIs se vl fz vr) (fv : Fit V) (hd : decide (s.wd (A + 1 + j) = se) = true) (hn : (A + 1 + j) < s.n) :
 Calls Tryz.prog 133 #[.pointer (some ⟨b,o,none⟩),.agg #[.int .i64 t,.int .i64 n,.int .i64 k,.int .i64 m,.int .i64 g,.int .i64 p,.int .i64 r,.pointer (some ⟨L.p,0,none⟩),.int .i64 who],.agg #[.int .i64 st,.int .i64 A,.int .i64 G,.int .i64 V]] w fun e w'=>e = .returned (.tuple #[]) /\ Hact L b o T cs w w' (fun s' l'=>s' = ((s.by who).cas (A + 1 + j) se (packX vl true V)) /\ l' = HpV x was Z (j + 1) se false ov wn):=by
 have HD : Hid (decide (s.wd (A + 1 + j) = se) = true):=hd
 have fl : Fit vl:=by have h1:=hc.vl;have h2:=hc.u0;constructor <;> omega
 have cc:=hc.call
 have ff : ∀ (a1 a2 a3 : Value) (w : World),(Instr.field 185 (.agg #[a1,a2,a3]) 0).run Tryz.prog w = .ok a1 w:=fun a1 a2 a3 w=>by kernel_rfl
 clear hd hc
 have hbv : ¬ L.has w.heap.size:=fun hh=>by have:=h.lt _ hh;omega
 have hbb : ¬ w.heap.size = b:=fun hh=>by have:=hi.lt;omega
 have hbv1 : ¬ L.has (w.heap.size + 1):=fun hh=>by have:=h.lt _ hh;omega
 have hbb1 : ¬ w.heap.size + 1 = b:=fun hh=>by have:=hi.lt;omega
 go_enter Tryz.func133,Tryz.ntmps133
 go_wp2
 refine wp_over (fun W=>MemAt W L s /\ At W b o T cs (HpV x was Z j se ld ov wn) /\ BoxV W w.heap.size t n k m g p r L.p who /\ At W (w.heap.size + 1) 0 87 #[.int .i64 st,.int .i64 A,.int .i64 G,.int .i64 V] [.int .i64 st,.int .i64 A,.int .i64 G,.int .i64 V] /\ Only (L.and b) w W) ⟨(h.alloc _).alloc _,(hi.grown (grow1 _ _)).grown (grow1 _ _),BoxV.newB _,At.new2 _ _ _ _,((Only.refl _ _).alloc _).alloc _⟩ ?_
 rintro W ⟨m1,i1,v1,x1,o1⟩
 obtain ⟨Sz,hSz⟩ : ∃ Sz,W.heap.size = Sz:=⟨_,rfl⟩
 refine wp_region_rely_tail Grown 10 [.val (.pointer (some ⟨b,o,none⟩)),.val (.pointer (some ⟨b,o,none⟩)),.val (.pointer (some ⟨b,o + 4,none⟩)),.val (.int .u64 se),.val (.agg #[.int .i64 vl,.bool fz,.int .i64 vr]),.val (.int .i64 vl),.val (.pointer (some ⟨w.heap.size + 1,3,none⟩)),.val (.int .i64 V),.val (.agg #[.int .i64 vl,.bool true,.int .i64 V]),.that (fun w' v=>∃ X,v = .pointer (some ⟨X,0,none⟩) /\ Sz <= X /\ At w' X 0 185 #[.int .i64 0,.bool false,.int .i64 0] [.int .i64 0,.bool false,.int .i64 0]) ?_] (by kernel_rfl) Grown.refl Grown.trans (by decide) (by kernel_rfl) (by kernel_rfl) (by kernel_rfl) (by kernel_rfl) (by kernel_rfl) (by kernel_rfl) ?_
 · rintro x1 y1 v hg ⟨X,hv,hb,hr⟩
   exact ⟨X,hv,hb,hr.grown hg⟩
 simp only [List.take_succ_cons,List.take_zero,relyAll,Act.put,List.setIfInBounds_toArray,List.set_cons_zero,List.set_cons_succ]
 refine ⟨?_,?_,?_,?_,?_,?_,?_,?_,?_,?_,?_⟩
 · intros;apply ol;go_simp;exact gl
 · intros;apply ol;go_simp;exact gl
 · intros;apply ol;go_simp;exact gl
 · intro w' hg _
   apply ol
   have z:=(i1.drew.grown hg).cell 4 rfl
   go_simp
   exact gl
 · intro w' hg _
   apply ol
   go_simp
   refine (cc _).mono ?_
   rintro e w'' ⟨rfl,b9⟩
   exact ⟨_,rfl,b9,rfl⟩
 · intros;apply ol;go_simp;exact gl
 · intros;apply ol;go_simp;exact gl
 · intro w' hg _
   apply ol
   have z:=(x1.drew.grown hg).at0 3 rfl
   go_simp
   exact gl
 · intros;apply ol;go_simp;exact gl
 · intro w' hg _
   apply ol
   have hz : Sz <= w'.heap.size:=by have:=hg.size;have e : W.drew.heap.size = W.heap.size:=rfl;omega
   have q:=At.new w' 185 [.int .i64 0,.bool false,.int .i64 0]
   go_simp
   exact ⟨grow_alloc (Below.refl _ _) _,_,rfl,hz,q⟩
 intro vX w8 hg hf
 obtain ⟨S,rfl,hXS,q8⟩:=hf.1
 have hLS : ¬ L.has S:=fun hh=>by have:=m1.lt _ hh;omega
 have hES : ¬ w.heap.size = S:=by have:=x1.lt;omega
 have hXS2 : w.heap.size + 1 ≠ S:=by have:=x1.lt;omega
 have hbS : b ≠ S:=by have:=i1.lt;omega
 have hSw : w.heap.size <= S:=by have:=x1.lt;omega
 have q0:=q8.at0 0 rfl
 have q1:=q8.at0 1 rfl
 have q2:=q8.at0 2 rfl
 have qf:=q8.fz
 have m9:=((((m1.drew.below hg).setIn hLS 0 (.int .i64 vl)).setIn hLS 1 (.bool true)).setIn hLS 2 (.int .i64 V))
 have v9:=(((((v1.grown ((Below.refl _ _).drew)).grown hg).setIn hES 0 (.int .i64 vl)).setIn hES 1 (.bool true)).setIn hES 2 (.int .i64 V))
 have x9:=((((x1.drew.grown hg).other hXS2 0 (.int .i64 vl)).other hXS2 1 (.bool true)).other hXS2 2 (.int .i64 V))
 have i9:=((((i1.drew.grown hg).other hbS 0 (.int .i64 vl)).other hbS 1 (.bool true)).other hbS 2 (.int .i64 V))
 have c9:=(((q8.put0 0 (.int .i64 vl)).put0 1 (.bool true)).put0 2 (.int .i64 V))
 have o9:=((((o1.drew.trans (Only.ofGrown hg)).setCell (a:=⟨S,0,none⟩) (fun hlt=>by simp only at hlt;omega) (.int .i64 vl)).setCell (a:=⟨S,1,none⟩) (fun hlt=>by simp only at hlt;omega) (.bool true)).setCell (a:=⟨S,2,none⟩) (fun hlt=>by simp only at hlt;omega) (.int .i64 V))
 clear hf hg hXS hSz m1 v1 x1 i1 o1 q8
 go_wp2
 refine wp_over (fun W=>MemAt W L s /\ At W b o T cs (HpV x was Z j se ld ov wn) /\ BoxV W w.heap.size t n k m g p r L.p who /\ At W (w.heap.size + 1) 0 87 #[.int .i64 st,.int .i64 A,.int .i64 G,.int .i64 V] [.int .i64 st,.int .i64 A,.int .i64 G,.int .i64 V] /\ At W S 0 185 _ [.int .i64 vl,.bool true,.int .i64 V] /\ Only (L.and b) w W) ⟨m9,i9,v9,x9,c9,o9⟩ ?_
 clear m9 i9 v9 x9 c9 o9 q0 q1 q2 qf cc ff
 rintro W ⟨m1,i1,v1,x1,q1,o1⟩
 refine wp_region_rely_tail Grown 10 [.val (.agg #[.int .i64 t,.int .i64 n,.int .i64 k,.int .i64 m,.int .i64 g,.int .i64 p,.int .i64 r,.pointer (some ⟨L.p,0,none⟩),.int .i64 who]),.val (.pointer (some ⟨b,o,none⟩)),.val (.agg #[.int .i64 st,.int .i64 A,.int .i64 G,.int .i64 V]),.val (.int .i64 (((A + 1 + j) : Nat) : Int)),.val (.pointer (some ⟨b,o,none⟩)),.val (.pointer (some ⟨b,o,none⟩)),.val (.pointer (some ⟨b,o + 4,none⟩)),.val (.int .u64 se),.val (.agg #[.int .i64 vl,.bool true,.int .i64 V]),.val (.int .u64 (packX vl true V))] (by kernel_rfl) Grown.refl Grown.trans (by decide) (by kernel_rfl) (by kernel_rfl) (by kernel_rfl) (by kernel_rfl) (by kernel_rfl) (by kernel_rfl) ?_
 simp only [List.take_succ_cons,List.take_zero,relyAll,Act.put,List.setIfInBounds_toArray,List.set_cons_zero,List.set_cons_succ]
 refine ⟨?_,?_,?_,?_,?_,?_,?_,?_,?_,?_,?_⟩
 · intro w' hg _
   apply ol
   obtain ⟨y0,y1,y2,y3,y4,y5,y6,y7,y8⟩:=(v1.grown ((Below.refl _ _).drew)).grown hg
   go_simp
   exact gl
 · intros;apply ol;go_simp;exact gl
 · intro w' hg _
   apply ol
   have z0:=(x1.drew.grown hg).at0 0 rfl
   have z1:=(x1.drew.grown hg).at0 1 rfl
   have z2:=(x1.drew.grown hg).at0 2 rfl
   have z3:=(x1.drew.grown hg).at0 3 rfl
   go_simp
   exact gl
 · intro w' hg _
   apply ol
   go_simp
   refine (hat_any st A G V j ((i1.drew.grown hg).cell 3 rfl) (by omega) (by omega) (by omega) (by omega)).mono ?_
   rintro e w'' ⟨rfl,b9⟩
   exact ⟨_,rfl,b9,congrArg (Value.int .i64) (by omega)⟩
 · intros;apply ol;go_simp;exact gl
 · intros;apply ol;go_simp;exact gl
 · intros;apply ol;go_simp;exact gl
 · intro w' hg _
   apply ol
   have z:=(i1.drew.grown hg).cell 4 rfl
   go_simp
   exact gl
 · intro w' hg _
   apply ol
   have z0:=(q1.drew.grown hg).at0 0 rfl
   have z1:=(q1.drew.grown hg).at0 1 rfl
   have z2:=(q1.drew.grown hg).at0 2 rfl
   go_simp
   exact gl
 · intro w' hg _
   apply ol
   go_simp
   refine (putCell_any vl true V _ fl fv).mono ?_
   rintro e w'' ⟨rfl,b9⟩
   exact ⟨_,rfl,b9,rfl⟩
 intro w5 hg _
 have m5:=m1.drew.below hg
 have i5:=i1.drew.grown hg
 have o5 : Only (L.and b) w w5:=o1.drew.trans (Only.ofGrown hg)
 clear hg m1 i1 v1 o1 x1 q1
 go_wp2_with (go_at_call 107;refine (ecas_in m5 _ _ _ _ _ _ _ _ (A + 1 + j) hn _ _).mono ?_;rintro e w6 ⟨rfl,m6,o6⟩;rw [HD.out];have i6:=i5.only o6 hb;have y3:=i6.cell 3 rfl;have y5:=i6.cell 5 rfl;have yf:=i6.fz)
 go_end0
 exact ⟨rfl,_,_,_,(m6.setIn hb _ _).setIn hb _ _,((o5.trans (o6.andL (b:=b))).set _ _).set _ _,(i6.set 3 _).set 5 _,(Same.refl.set (by omega) _).set (by omega) _,rfl,rfl⟩
set_option maxHeartbeats 400000 in
theorem hfreeze_no {w : World} {L : Loc} {s : Mm} {b o : Nat} {T : TypeId} {cs : Array Value} {t n k m : Nat} {g p r : Int} {x was Z se : Int} {j : Nat} {ld ov wn : Bool} (h : MemAt w L s) (hb : ¬ L.has b) (hi : At w b o T cs (HpV x was Z j se ld ov wn)) (who : Int) (st : Int) (A : Nat) (G V : Int) (a1 : A <= 1048575) (j1 : j <= 16) {vl vr : Int} {fz : Bool} (hc : CellIs se vl fz vr) (fv : Fit V) (hd : decide (s.wd (A + 1 + j) = se) = false) (hn : (A + 1 + j) < s.n) :
 Calls Tryz.prog 133 #[.pointer (some ⟨b,o,none⟩),.agg #[.int .i64 t,.int .i64 n,.int .i64 k,.int .i64 m,.int .i64 g,.int .i64 p,.int .i64 r,.pointer (some ⟨L.p,0,none⟩),.int .i64 who],.agg #[.int .i64 st,.int .i64 A,.int .i64 G,.int .i64 V]] w fun e w'=>e = .returned (.tuple #[]) /\ Hact L b o T cs w w' (fun s' l'=>s' = ((s.by who).cas (A + 1 + j) se (packX vl true V)) /\ l' = HpV x was Z j se false ov wn):=by
 have HD : Hid (decide (s.wd (A + 1 + j) = se) = false):=hd
 have fl : Fit vl:=by have h1:=hc.vl;have h2:=hc.u0;constructor <;> omega
 have cc:=hc.call
 have ff : ∀ (a1 a2 a3 : Value) (w : World),(Instr.field 185 (.agg #[a1,a2,a3]) 0).run Tryz.prog w = .ok a1 w:=fun a1 a2 a3 w=>by kernel_rfl
 clear hd hc
 have hbv : ¬ L.has w.heap.size:=fun hh=>by have:=h.lt _ hh;omega
 have hbb : ¬ w.heap.size = b:=fun hh=>by have:=hi.lt;omega
 have hbv1 : ¬ L.has (w.heap.size + 1):=fun hh=>by have:=h.lt _ hh;omega
 have hbb1 : ¬ w.heap.size + 1 = b:=fun hh=>by have:=hi.lt;omega
 go_enter Tryz.func133,Tryz.ntmps133
 go_wp2
 refine wp_over (fun W=>MemAt W L s /\ At W b o T cs (HpV x was Z j se ld ov wn) /\ BoxV W w.heap.size t n k m g p r L.p who /\ At W (w.heap.size + 1) 0 87 #[.int .i64 st,.int .i64 A,.int .i64 G,.int .i64 V] [.int .i64 st,.int .i64 A,.int .i64 G,.int .i64 V] /\ Only (L.and b) w W) ⟨(h.alloc _).alloc _,(hi.grown (grow1 _ _)).grown (grow1 _ _),BoxV.newB _,At.new2 _ _ _ _,((Only.refl _ _).alloc _).alloc _⟩ ?_
 rintro W ⟨m1,i1,v1,x1,o1⟩
 obtain ⟨Sz,hSz⟩ : ∃ Sz,W.heap.size = Sz:=⟨_,rfl⟩
 refine wp_region_rely_tail Grown 10 [.val (.pointer (some ⟨b,o,none⟩)),.val (.pointer (some ⟨b,o,none⟩)),.val (.pointer (some ⟨b,o + 4,none⟩)),.val (.int .u64 se),.val (.agg #[.int .i64 vl,.bool fz,.int .i64 vr]),.val (.int .i64 vl),.val (.pointer (some ⟨w.heap.size + 1,3,none⟩)),.val (.int .i64 V),.val (.agg #[.int .i64 vl,.bool true,.int .i64 V]),.that (fun w' v=>∃ X,v = .pointer (some ⟨X,0,none⟩) /\ Sz <= X /\ At w' X 0 185 #[.int .i64 0,.bool false,.int .i64 0] [.int .i64 0,.bool false,.int .i64 0]) ?_] (by kernel_rfl) Grown.refl Grown.trans (by decide) (by kernel_rfl) (by kernel_rfl) (by kernel_rfl) (by kernel_rfl) (by kernel_rfl) (by kernel_rfl) ?_
 · rintro x1 y1 v hg ⟨X,hv,hb,hr⟩
   exact ⟨X,hv,hb,hr.grown hg⟩
 simp only [List.take_succ_cons,List.take_zero,relyAll,Act.put,List.setIfInBounds_toArray,List.set_cons_zero,List.set_cons_succ]
 refine ⟨?_,?_,?_,?_,?_,?_,?_,?_,?_,?_,?_⟩
 · intros;apply ol;go_simp;exact gl
 · intros;apply ol;go_simp;exact gl
 · intros;apply ol;go_simp;exact gl
 · intro w' hg _
   apply ol
   have z:=(i1.drew.grown hg).cell 4 rfl
   go_simp
   exact gl
 · intro w' hg _
   apply ol
   go_simp
   refine (cc _).mono ?_
   rintro e w'' ⟨rfl,b9⟩
   exact ⟨_,rfl,b9,rfl⟩
 · intros;apply ol;go_simp;exact gl
 · intros;apply ol;go_simp;exact gl
 · intro w' hg _
   apply ol
   have z:=(x1.drew.grown hg).at0 3 rfl
   go_simp
   exact gl
 · intros;apply ol;go_simp;exact gl
 · intro w' hg _
   apply ol
   have hz : Sz <= w'.heap.size:=by have:=hg.size;have e : W.drew.heap.size = W.heap.size:=rfl;omega
   have q:=At.new w' 185 [.int .i64 0,.bool false,.int .i64 0]
   go_simp
   exact ⟨grow_alloc (Below.refl _ _) _,_,rfl,hz,q⟩
 intro vX w8 hg hf
 obtain ⟨S,rfl,hXS,q8⟩:=hf.1
 have hLS : ¬ L.has S:=fun hh=>by have:=m1.lt _ hh;omega
 have hES : ¬ w.heap.size = S:=by have:=x1.lt;omega
 have hXS2 : w.heap.size + 1 ≠ S:=by have:=x1.lt;omega
 have hbS : b ≠ S:=by have:=i1.lt;omega
 have hSw : w.heap.size <= S:=by have:=x1.lt;omega
 have q0:=q8.at0 0 rfl
 have q1:=q8.at0 1 rfl
 have q2:=q8.at0 2 rfl
 have qf:=q8.fz
 have m9:=((((m1.drew.below hg).setIn hLS 0 (.int .i64 vl)).setIn hLS 1 (.bool true)).setIn hLS 2 (.int .i64 V))
 have v9:=(((((v1.grown ((Below.refl _ _).drew)).grown hg).setIn hES 0 (.int .i64 vl)).setIn hES 1 (.bool true)).setIn hES 2 (.int .i64 V))
 have x9:=((((x1.drew.grown hg).other hXS2 0 (.int .i64 vl)).other hXS2 1 (.bool true)).other hXS2 2 (.int .i64 V))
 have i9:=((((i1.drew.grown hg).other hbS 0 (.int .i64 vl)).other hbS 1 (.bool true)).other hbS 2 (.int .i64 V))
 have c9:=(((q8.put0 0 (.int .i64 vl)).put0 1 (.bool true)).put0 2 (.int .i64 V))
 have o9:=((((o1.drew.trans (Only.ofGrown hg)).setCell (a:=⟨S,0,none⟩) (fun hlt=>by simp only at hlt;omega) (.int .i64 vl)).setCell (a:=⟨S,1,none⟩) (fun hlt=>by simp only at hlt;omega) (.bool true)).setCell (a:=⟨S,2,none⟩) (fun hlt=>by simp only at hlt;omega) (.int .i64 V))
 clear hf hg hXS hSz m1 v1 x1 i1 o1 q8
 go_wp2
 refine wp_over (fun W=>MemAt W L s /\ At W b o T cs (HpV x was Z j se ld ov wn) /\ BoxV W w.heap.size t n k m g p r L.p who /\ At W (w.heap.size + 1) 0 87 #[.int .i64 st,.int .i64 A,.int .i64 G,.int .i64 V] [.int .i64 st,.int .i64 A,.int .i64 G,.int .i64 V] /\ At W S 0 185 _ [.int .i64 vl,.bool true,.int .i64 V] /\ Only (L.and b) w W) ⟨m9,i9,v9,x9,c9,o9⟩ ?_
 clear m9 i9 v9 x9 c9 o9 q0 q1 q2 qf cc ff
 rintro W ⟨m1,i1,v1,x1,q1,o1⟩
 refine wp_region_rely_tail Grown 10 [.val (.agg #[.int .i64 t,.int .i64 n,.int .i64 k,.int .i64 m,.int .i64 g,.int .i64 p,.int .i64 r,.pointer (some ⟨L.p,0,none⟩),.int .i64 who]),.val (.pointer (some ⟨b,o,none⟩)),.val (.agg #[.int .i64 st,.int .i64 A,.int .i64 G,.int .i64 V]),.val (.int .i64 (((A + 1 + j) : Nat) : Int)),.val (.pointer (some ⟨b,o,none⟩)),.val (.pointer (some ⟨b,o,none⟩)),.val (.pointer (some ⟨b,o + 4,none⟩)),.val (.int .u64 se),.val (.agg #[.int .i64 vl,.bool true,.int .i64 V]),.val (.int .u64 (packX vl true V))] (by kernel_rfl) Grown.refl Grown.trans (by decide) (by kernel_rfl) (by kernel_rfl) (by kernel_rfl) (by kernel_rfl) (by kernel_rfl) (by kernel_rfl) ?_
 simp only [List.take_succ_cons,List.take_zero,relyAll,Act.put,List.setIfInBounds_toArray,List.set_cons_zero,List.set_cons_succ]
 refine ⟨?_,?_,?_,?_,?_,?_,?_,?_,?_,?_,?_⟩
 · intro w' hg _
   apply ol
   obtain ⟨y0,y1,y2,y3,y4,y5,y6,y7,y8⟩:=(v1.grown ((Below.refl _ _).drew)).grown hg
   go_simp
   exact gl
 · intros;apply ol;go_simp;exact gl
 · intro w' hg _
   apply ol
   have z0:=(x1.drew.grown hg).at0 0 rfl
   have z1:=(x1.drew.grown hg).at0 1 rfl
   have z2:=(x1.drew.grown hg).at0 2 rfl
   have z3:=(x1.drew.grown hg).at0 3 rfl
   go_simp
   exact gl
 · intro w' hg _
   apply ol
   go_simp
   refine (hat_any st A G V j ((i1.drew.grown hg).cell 3 rfl) (by omega) (by omega) (by omega) (by omega)).mono ?_
   rintro e w'' ⟨rfl,b9⟩
   exact ⟨_,rfl,b9,congrArg (Value.int .i64) (by omega)⟩
 · intros;apply ol;go_simp;exact gl
 · intros;apply ol;go_simp;exact gl
 · intros;apply ol;go_simp;exact gl
 · intro w' hg _
   apply ol
   have z:=(i1.drew.grown hg).cell 4 rfl
   go_simp
   exact gl
 · intro w' hg _
   apply ol
   have z0:=(q1.drew.grown hg).at0 0 rfl
   have z1:=(q1.drew.grown hg).at0 1 rfl
   have z2:=(q1.drew.grown hg).at0 2 rfl
   go_simp
   exact gl
 · intro w' hg _
   apply ol
   go_simp
   refine (putCell_any vl true V _ fl fv).mono ?_
   rintro e w'' ⟨rfl,b9⟩
   exact ⟨_,rfl,b9,rfl⟩
 intro w5 hg _
 have m5:=m1.drew.below hg
 have i5:=i1.drew.grown hg
 have o5 : Only (L.and b) w w5:=o1.drew.trans (Only.ofGrown hg)
 clear hg m1 i1 v1 o1 x1 q1
 go_wp2_with (go_at_call 107;refine (ecas_in m5 _ _ _ _ _ _ _ _ (A + 1 + j) hn _ _).mono ?_;rintro e w6 ⟨rfl,m6,o6⟩;rw [HD.out];have i6:=i5.only o6 hb;have y3:=i6.cell 3 rfl;have y5:=i6.cell 5 rfl;have yf:=i6.fz)
 go_end0
 exact ⟨rfl,_,_,_,m6.setIn hb _ _,(o5.trans (o6.andL (b:=b))).set _ _,i6.set 5 _,Same.refl.set (by omega) _,rfl,rfl⟩
set_option maxHeartbeats 400000 in
theorem hend_next {w : World} {L : Loc} {s : Mm} {b o : Nat} {T : TypeId} {cs : Array Value} {t n k m : Nat} {g p r : Int} {was Z se : Int} {x j : Nat} {ld ov wn : Bool} (h : MemAt w L s) (hb : ¬ L.has b) (hi : At w b o T cs (HpV x was Z j se ld ov wn)) (who : Int) (st : Int) (A : Nat) (G V : Int) (hG : Good t n k m g p r) (g0 : 0 <= G) (g1 : G <= 65535) (hl : G < g) (hx : x < n) {d : Bool} (hd : decide (s.wd (6 + t + x * 2) = was) = d) (hn : 6 + t + x * 2 < s.n) :
 Calls Tryz.prog 132 #[.pointer (some ⟨b,o,none⟩),.agg #[.int .i64 t,.int .i64 n,.int .i64 k,.int .i64 m,.int .i64 g,.int .i64 p,.int .i64 r,.pointer (some ⟨L.p,0,none⟩),.int .i64 who],.agg #[.int .i64 st,.int .i64 A,.int .i64 G,.int .i64 V]] w fun e w'=>e = .returned (.tuple #[]) /\ Hact L b o T cs w w' (fun s' l'=>s' = ((s.by who).cas (6 + t + x * 2) was (packS 0 0 (G + 1) 0)) /\ l' = HpV x was Z j se ld true d):=by
 have HD : Hid (decide (s.wd (6 + t + x * 2) = was) = d):=hd
 have hs1:=hG.s1
 have hg1:=hG.g1
 clear hd
 have hbv : ¬ L.has w.heap.size:=fun hh=>by have:=h.lt _ hh;omega
 have hbb : ¬ w.heap.size = b:=fun hh=>by have:=hi.lt;omega
 have hbv1 : ¬ L.has (w.heap.size + 1):=fun hh=>by have:=h.lt _ hh;omega
 have hbb1 : ¬ w.heap.size + 1 = b:=fun hh=>by have:=hi.lt;omega
 go_enter Tryz.func132,Tryz.ntmps132
 go_wp2
 refine wp_over (fun W=>MemAt W L s /\ At W b o T cs (HpV x was Z j se ld ov wn) /\ BoxV W w.heap.size t n k m g p r L.p who /\ At W (w.heap.size + 1) 0 87 #[.int .i64 st,.int .i64 A,.int .i64 G,.int .i64 V] [.int .i64 st,.int .i64 A,.int .i64 G,.int .i64 V] /\ Only (L.and b) w W) ⟨(h.alloc _).alloc _,(hi.grown (grow1 _ _)).grown (grow1 _ _),BoxV.newB _,At.new2 _ _ _ _,((Only.refl _ _).alloc _).alloc _⟩ ?_
 rintro W ⟨m1,i1,v1,x1,o1⟩
 refine wp_region_phase (OnlyBut L b (o + 7)) Grown (phAt L b o T cs (cs.setIfInBounds (o + 7) (.bool d)) s ((s.by who).cas (6 + t + x * 2) was (packS 0 0 (G + 1) 0)) (HpV x was Z j se ld ov wn) (HpV x was Z j se ld ov d)) [18,21] [.val (.pointer (some ⟨b,o,none⟩)),.val (.agg #[.int .i64 t,.int .i64 n,.int .i64 k,.int .i64 m,.int .i64 g,.int .i64 p,.int .i64 r,.pointer (some ⟨L.p,0,none⟩),.int .i64 who]),.val (.pointer (some ⟨w.heap.size,0,none⟩)),.val (.agg #[.int .i64 t,.int .i64 n,.int .i64 k,.int .i64 m,.int .i64 g,.int .i64 p,.int .i64 r]),.val (.pointer (some ⟨b,o,none⟩)),.val (.pointer (some ⟨b,o,none⟩)),.val (.pointer (some ⟨b,o,none⟩)),.val (.int .i64 (x : Nat)),.val (.int .i64 ((6 + t + x * 2 : Nat) : Int)),.val (.pointer (some ⟨b,o,none⟩)),.val (.pointer (some ⟨b,o,none⟩)),.val (.pointer (some ⟨b,o + 1,none⟩)),.val (.int .u64 was),.val (.pointer (some ⟨w.heap.size,0,none⟩)),.val (.agg #[.int .i64 t,.int .i64 n,.int .i64 k,.int .i64 m,.int .i64 g,.int .i64 p,.int .i64 r]),.val (.agg #[.int .i64 st,.int .i64 A,.int .i64 G,.int .i64 V]),.val (.agg #[.int .i64 0,.int .i64 0,.int .i64 (G + 1),.int .i64 0]),.val (.int .u64 (packS 0 0 (G + 1) 0)),.val (.bool d),.val (.pointer (some ⟨b,o,none⟩)),.val (.pointer (some ⟨b,o + 7,none⟩)),.that (fun _ _=>True) (fun _ _ _ _ _=>trivial)]
  (by kernel_rfl) OnlyBut.refl OnlyBut.trans OnlyBut.ofGrown phAt_grown ⟨m1.drew,i1.drew⟩ (by kernel_rfl) (by kernel_rfl) (by kernel_rfl) (by kernel_rfl) (by kernel_rfl) ?_
 simp only [phaseAll,Act.put,List.setIfInBounds_toArray,List.set_cons_zero,List.set_cons_succ]
 refine ⟨?_,?_,?_,?_,?_,?_,?_,?_,?_,?_,?_,?_,?_,?_,?_,?_,?_,?_,?_,?_,?_,?_,?_⟩
 · intros;apply ol;go_simp;exact gl
 · intro w' hR _
   apply ol
   obtain ⟨y0,y1,y2,y3,y4,y5,y6,y7,y8⟩:=(v1.grown ((Below.refl _ _).drew)).only hR.only (fun hh=>hh.elim hbv hbb)
   go_simp
   exact gl
 · intros;apply ol;go_simp;exact gl
 · intro w' hR _
   apply ol
   obtain ⟨y0,y1,y2,y3,y4,y5,y6,y7,y8⟩:=(v1.grown ((Below.refl _ _).drew)).only hR.only (fun hh=>hh.elim hbv hbb)
   go_simp
   exact gl
 · intros;apply ol;go_simp;exact gl
 · intros;apply ol;go_simp;exact gl
 · intros;apply ol;go_simp;exact gl
 · intro w' hR _
   apply ol
   have z:=hR.keep (j:=o) (by omega) (i1.drew.cell0 rfl)
   go_simp
   exact gl
 · intro w' hR _
   apply ol
   go_simp
   refine (lslot_any _ _ _ _ _ _ _ (x : Int) _ hG.arena (by omega) (by omega)).mono ?_
   rintro e w'' ⟨rfl,b9⟩
   exact ⟨_,rfl,b9,congrArg (Value.int .i64) (by omega)⟩
 · intros;apply ol;go_simp;exact gl
 · intros;apply ol;go_simp;exact gl
 · intros;apply ol;go_simp;exact gl
 · intro w' hR _
   apply ol
   have z:=hR.keep (j:=o + 1) (by omega) (i1.drew.cell 1 rfl)
   go_simp
   exact gl
 · intros;apply ol;go_simp;exact gl
 · intro w' hR _
   apply ol
   obtain ⟨y0,y1,y2,y3,y4,y5,y6,y7,y8⟩:=(v1.grown ((Below.refl _ _).drew)).only hR.only (fun hh=>hh.elim hbv hbb)
   go_simp
   exact gl
 · intro w' hR _
   apply ol
   have z0:=(x1.drew.only hR.only (fun hh=>hh.elim hbv1 hbb1)).at0 0 rfl
   have z1:=(x1.drew.only hR.only (fun hh=>hh.elim hbv1 hbb1)).at0 1 rfl
   have z2:=(x1.drew.only hR.only (fun hh=>hh.elim hbv1 hbb1)).at0 2 rfl
   have z3:=(x1.drew.only hR.only (fun hh=>hh.elim hbv1 hbb1)).at0 3 rfl
   go_simp
   exact gl
 · intro w' hR _
   apply ol
   go_simp
   refine (dbehind_next _ _ _ _ _ _ _ _ _ _ _ hl hg1 g0 _).mono ?_
   rintro e w'' ⟨rfl,b9⟩
   exact ⟨_,rfl,b9,rfl⟩
 · intro w' hR _
   apply ol
   go_simp
   refine (putSlot_any 0 0 (G + 1) 0 _ ⟨by omega,by omega⟩ ⟨by omega,by omega⟩ ⟨by omega,by omega⟩ ⟨by omega,by omega⟩).mono ?_
   rintro e w'' ⟨rfl,b9⟩
   exact ⟨_,rfl,b9,rfl⟩
 · intro w' hR _ hP
   apply ol
   go_simp
   refine (ecas_in (s:=s) hP.1 _ _ _ _ _ _ _ _ (6 + t + x * 2) hn _ _).mono ?_
   rintro e w'' ⟨rfl,m2,o2⟩
   exact ⟨_,rfl,⟨OnlyBut.ofOnly o2 hb,m2,hP.2.only o2 hb⟩,by simp only [Want.pred];exact congrArg Value.bool HD.out⟩
 · intros;apply ol;go_simp;exact gl
 · intros;apply ol;go_simp;exact gl
 · intro w' hR _ hP
   apply ol
   have z0:=hP.2.cell 7 rfl
   have z1:=hP.2.fz
   go_simp
   exact ⟨⟨OnlyBut.set _ _,hP.1.setIn hb _ _,hP.2.set 7 _⟩,trivial⟩
 intro vv w2 hR hP _
 obtain ⟨m2,i2⟩ : MemAt w2 L ((s.by who).cas (6 + t + x * 2) was (packS 0 0 (G + 1) 0)) /\ At w2 b o T (cs.setIfInBounds (o + 7) (.bool d)) (HpV x was Z j se ld ov d):=hP
 have o2 : Only (L.and b) w w2:=o1.drew.trans hR.only
 have s2 : Same o 8 cs (cs.setIfInBounds (o + 7) (.bool d)):=Same.refl.set (by omega) _
 have k4:=i2.cell 6 rfl
 have kf:=i2.fz
 clear hR o1 v1 m1 i1 x1
 go_wp2
 go_end0
 exact ⟨rfl,_,_,_,m2.setIn hb _ _,o2.set _ _,i2.set 6 _,s2.set (by omega) _,rfl,rfl⟩
set_option maxHeartbeats 400000 in
theorem hend_last {w : World} {L : Loc} {s : Mm} {b o : Nat} {T : TypeId} {cs : Array Value} {t n k m : Nat} {g p r : Int} {was Z se : Int} {x j : Nat} {ld ov wn : Bool} (h : MemAt w L s) (hb : ¬ L.has b) (hi : At w b o T cs (HpV x was Z j se ld ov wn)) (who : Int) (st : Int) (A : Nat) (G V : Int) (hG : Good t n k m g p r) (g0 : 0 <= G) (g1 : G <= 65535) (hl : g <= G) (hx : x < n) {d : Bool} (hd : decide (s.wd (6 + t + x * 2) = was) = d) (hn : 6 + t + x * 2 < s.n) :
 Calls Tryz.prog 132 #[.pointer (some ⟨b,o,none⟩),.agg #[.int .i64 t,.int .i64 n,.int .i64 k,.int .i64 m,.int .i64 g,.int .i64 p,.int .i64 r,.pointer (some ⟨L.p,0,none⟩),.int .i64 who],.agg #[.int .i64 st,.int .i64 A,.int .i64 G,.int .i64 V]] w fun e w'=>e = .returned (.tuple #[]) /\ Hact L b o T cs w w' (fun s' l'=>s' = ((s.by who).cas (6 + t + x * 2) was (packS 3 0 G 0)) /\ l' = HpV x was Z j se ld true d):=by
 have HD : Hid (decide (s.wd (6 + t + x * 2) = was) = d):=hd
 have hs1:=hG.s1
 have hg1:=hG.g1
 clear hd
 have hbv : ¬ L.has w.heap.size:=fun hh=>by have:=h.lt _ hh;omega
 have hbb : ¬ w.heap.size = b:=fun hh=>by have:=hi.lt;omega
 have hbv1 : ¬ L.has (w.heap.size + 1):=fun hh=>by have:=h.lt _ hh;omega
 have hbb1 : ¬ w.heap.size + 1 = b:=fun hh=>by have:=hi.lt;omega
 go_enter Tryz.func132,Tryz.ntmps132
 go_wp2
 refine wp_over (fun W=>MemAt W L s /\ At W b o T cs (HpV x was Z j se ld ov wn) /\ BoxV W w.heap.size t n k m g p r L.p who /\ At W (w.heap.size + 1) 0 87 #[.int .i64 st,.int .i64 A,.int .i64 G,.int .i64 V] [.int .i64 st,.int .i64 A,.int .i64 G,.int .i64 V] /\ Only (L.and b) w W) ⟨(h.alloc _).alloc _,(hi.grown (grow1 _ _)).grown (grow1 _ _),BoxV.newB _,At.new2 _ _ _ _,((Only.refl _ _).alloc _).alloc _⟩ ?_
 rintro W ⟨m1,i1,v1,x1,o1⟩
 refine wp_region_phase (OnlyBut L b (o + 7)) Grown (phAt L b o T cs (cs.setIfInBounds (o + 7) (.bool d)) s ((s.by who).cas (6 + t + x * 2) was (packS 3 0 G 0)) (HpV x was Z j se ld ov wn) (HpV x was Z j se ld ov d)) [18,21] [.val (.pointer (some ⟨b,o,none⟩)),.val (.agg #[.int .i64 t,.int .i64 n,.int .i64 k,.int .i64 m,.int .i64 g,.int .i64 p,.int .i64 r,.pointer (some ⟨L.p,0,none⟩),.int .i64 who]),.val (.pointer (some ⟨w.heap.size,0,none⟩)),.val (.agg #[.int .i64 t,.int .i64 n,.int .i64 k,.int .i64 m,.int .i64 g,.int .i64 p,.int .i64 r]),.val (.pointer (some ⟨b,o,none⟩)),.val (.pointer (some ⟨b,o,none⟩)),.val (.pointer (some ⟨b,o,none⟩)),.val (.int .i64 (x : Nat)),.val (.int .i64 ((6 + t + x * 2 : Nat) : Int)),.val (.pointer (some ⟨b,o,none⟩)),.val (.pointer (some ⟨b,o,none⟩)),.val (.pointer (some ⟨b,o + 1,none⟩)),.val (.int .u64 was),.val (.pointer (some ⟨w.heap.size,0,none⟩)),.val (.agg #[.int .i64 t,.int .i64 n,.int .i64 k,.int .i64 m,.int .i64 g,.int .i64 p,.int .i64 r]),.val (.agg #[.int .i64 st,.int .i64 A,.int .i64 G,.int .i64 V]),.val (.agg #[.int .i64 3,.int .i64 0,.int .i64 G,.int .i64 0]),.val (.int .u64 (packS 3 0 G 0)),.val (.bool d),.val (.pointer (some ⟨b,o,none⟩)),.val (.pointer (some ⟨b,o + 7,none⟩)),.that (fun _ _=>True) (fun _ _ _ _ _=>trivial)]
  (by kernel_rfl) OnlyBut.refl OnlyBut.trans OnlyBut.ofGrown phAt_grown ⟨m1.drew,i1.drew⟩ (by kernel_rfl) (by kernel_rfl) (by kernel_rfl) (by kernel_rfl) (by kernel_rfl) ?_
 simp only [phaseAll,Act.put,List.setIfInBounds_toArray,List.set_cons_zero,List.set_cons_succ]
 refine ⟨?_,?_,?_,?_,?_,?_,?_,?_,?_,?_,?_,?_,?_,?_,?_,?_,?_,?_,?_,?_,?_,?_,?_⟩
 · intros;apply ol;go_simp;exact gl
 · intro w' hR _
   apply ol
   obtain ⟨y0,y1,y2,y3,y4,y5,y6,y7,y8⟩:=(v1.grown ((Below.refl _ _).drew)).only hR.only (fun hh=>hh.elim hbv hbb)
   go_simp
   exact gl
 · intros;apply ol;go_simp;exact gl
 · intro w' hR _
   apply ol
   obtain ⟨y0,y1,y2,y3,y4,y5,y6,y7,y8⟩:=(v1.grown ((Below.refl _ _).drew)).only hR.only (fun hh=>hh.elim hbv hbb)
   go_simp
   exact gl
 · intros;apply ol;go_simp;exact gl
 · intros;apply ol;go_simp;exact gl
 · intros;apply ol;go_simp;exact gl
 · intro w' hR _
   apply ol
   have z:=hR.keep (j:=o) (by omega) (i1.drew.cell0 rfl)
   go_simp
   exact gl
 · intro w' hR _
   apply ol
   go_simp
   refine (lslot_any _ _ _ _ _ _ _ (x : Int) _ hG.arena (by omega) (by omega)).mono ?_
   rintro e w'' ⟨rfl,b9⟩
   exact ⟨_,rfl,b9,congrArg (Value.int .i64) (by omega)⟩
 · intros;apply ol;go_simp;exact gl
 · intros;apply ol;go_simp;exact gl
 · intros;apply ol;go_simp;exact gl
 · intro w' hR _
   apply ol
   have z:=hR.keep (j:=o + 1) (by omega) (i1.drew.cell 1 rfl)
   go_simp
   exact gl
 · intros;apply ol;go_simp;exact gl
 · intro w' hR _
   apply ol
   obtain ⟨y0,y1,y2,y3,y4,y5,y6,y7,y8⟩:=(v1.grown ((Below.refl _ _).drew)).only hR.only (fun hh=>hh.elim hbv hbb)
   go_simp
   exact gl
 · intro w' hR _
   apply ol
   have z0:=(x1.drew.only hR.only (fun hh=>hh.elim hbv1 hbb1)).at0 0 rfl
   have z1:=(x1.drew.only hR.only (fun hh=>hh.elim hbv1 hbb1)).at0 1 rfl
   have z2:=(x1.drew.only hR.only (fun hh=>hh.elim hbv1 hbb1)).at0 2 rfl
   have z3:=(x1.drew.only hR.only (fun hh=>hh.elim hbv1 hbb1)).at0 3 rfl
   go_simp
   exact gl
 · intro w' hR _
   apply ol
   go_simp
   refine (dbehind_last _ _ _ _ _ _ _ _ _ _ _ hl _).mono ?_
   rintro e w'' ⟨rfl,b9⟩
   exact ⟨_,rfl,b9,rfl⟩
 · intro w' hR _
   apply ol
   go_simp
   refine (putSlot_any 3 0 G 0 _ ⟨by omega,by omega⟩ ⟨by omega,by omega⟩ ⟨by omega,by omega⟩ ⟨by omega,by omega⟩).mono ?_
   rintro e w'' ⟨rfl,b9⟩
   exact ⟨_,rfl,b9,rfl⟩
 · intro w' hR _ hP
   apply ol
   go_simp
   refine (ecas_in (s:=s) hP.1 _ _ _ _ _ _ _ _ (6 + t + x * 2) hn _ _).mono ?_
   rintro e w'' ⟨rfl,m2,o2⟩
   exact ⟨_,rfl,⟨OnlyBut.ofOnly o2 hb,m2,hP.2.only o2 hb⟩,by simp only [Want.pred];exact congrArg Value.bool HD.out⟩
 · intros;apply ol;go_simp;exact gl
 · intros;apply ol;go_simp;exact gl
 · intro w' hR _ hP
   apply ol
   have z0:=hP.2.cell 7 rfl
   have z1:=hP.2.fz
   go_simp
   exact ⟨⟨OnlyBut.set _ _,hP.1.setIn hb _ _,hP.2.set 7 _⟩,trivial⟩
 intro vv w2 hR hP _
 obtain ⟨m2,i2⟩ : MemAt w2 L ((s.by who).cas (6 + t + x * 2) was (packS 3 0 G 0)) /\ At w2 b o T (cs.setIfInBounds (o + 7) (.bool d)) (HpV x was Z j se ld ov d):=hP
 have o2 : Only (L.and b) w w2:=o1.drew.trans hR.only
 have s2 : Same o 8 cs (cs.setIfInBounds (o + 7) (.bool d)):=Same.refl.set (by omega) _
 have k4:=i2.cell 6 rfl
 have kf:=i2.fz
 clear hR o1 v1 m1 i1 x1
 go_wp2
 go_end0
 exact ⟨rfl,_,_,_,m2.setIn hb _ _,o2.set _ _,i2.set 6 _,s2.set (by omega) _,rfl,rfl⟩
set_option maxHeartbeats 400000 in
theorem hstep_end {w : World} {L : Loc} {s : Mm} {b o : Nat} {T : TypeId} {cs : Array Value} {t n k m : Nat} {g p r : Int} {was Z se : Int} {x j : Nat} {ld wn : Bool} (h : MemAt w L s) (hi : At w b o T cs (HpV x was Z j se ld false wn)) (who : Int) (hG : Good t n k m g p r) (hlen : arenaLen t n k m <= s.n) (hx : x < n) {st : Int} {A : Nat} {G V : Int} (hs : SlotIs was st A G V) (hl : lifeB st = true) {i : Int} (a1 : A <= 1048575) (z0 : 1 <= Z) (z1 : Z <= 16) (i0 : 0 <= i) (h1 : chunkOf t n k m A = i) (h2 : chunkOf t n k m (A + Z) = i) (hj : Z <= j) (X : Mm -> List Value -> Prop) (d : Bool) (hX : ∀ s' l',X s' l' -> l'[6]? = some (.bool d))
 (hc : ∀ w1 : World,MemAt w1 L s -> At w1 b o T cs (HpV x was Z j se ld false wn) -> Calls Tryz.prog 132 #[.pointer (some ⟨b,o,none⟩),.agg #[.int .i64 t,.int .i64 n,.int .i64 k,.int .i64 m,.int .i64 g,.int .i64 p,.int .i64 r,.pointer (some ⟨L.p,0,none⟩),.int .i64 who],.agg #[.int .i64 st,.int .i64 A,.int .i64 G,.int .i64 V]] w1 fun e w'=>e = .returned (.tuple #[]) /\ Hact L b o T cs w1 w' X) :
 Calls Tryz.prog 123 #[.pointer (some ⟨b,o,none⟩),.agg #[.int .i64 t,.int .i64 n,.int .i64 k,.int .i64 m,.int .i64 g,.int .i64 p,.int .i64 r,.pointer (some ⟨L.p,0,none⟩),.int .i64 who]] w fun e w'=>e = .returned (.bool d) /\ Hact L b o T cs w w' X:=by
 have HJ : Hid (decide ((j : Int) ≥ Z) = true):=decide_eq_true (by omega)
 have sw:=hs.call
 have ds:=fun (w' : World) (m' : MemAt w' L s)=>dstands_any (x:=x) m' hG hlen who
 rw [decide_eq_true (by omega)] at ds
 have dl:=fun w=>dlives_any st A G V w
 rw [hl] at dl
 clear hs hl hj hlen hx
 have i0':=hi.grown (grow1 _ (.cells #[.int .i64 t,.int .i64 n,.int .i64 k,.int .i64 m,.int .i64 g,.int .i64 p,.int .i64 r,.pointer (some ⟨L.p,0,none⟩),.int .i64 who] 27))
 have k1:=i0'.cell 1 rfl
 have k6:=i0'.cell 6 rfl
 go_enter Tryz.func123,Tryz.ntmps123
 go_wp2_with (go_at_call 82;refine (sw _).mono ?_;rintro e w1 ⟨rfl,b1⟩)
 have x0:=At.new w1 87 [.int .i64 st,.int .i64 A,.int .i64 G,.int .i64 V]
 obtain ⟨B,hB⟩ : ∃ B,w1.heap.size = B:=⟨_,rfl⟩
 rw [hB] at x0 ⊢
 refine wp_over (fun W=>MemAt W L s /\ At W b o T cs (HpV x was Z j se ld false wn) /\ BoxV W w.heap.size t n k m g p r L.p who /\ At W B 0 87 #[.int .i64 st,.int .i64 A,.int .i64 G,.int .i64 V] [.int .i64 st,.int .i64 A,.int .i64 G,.int .i64 V] /\ Only (L.and b) w W) ⟨((h.alloc _).below b1).alloc _,(i0'.grown b1).grown (grow1 _ _),(BoxV.new.grown b1).grown (grow1 _ _),x0,(((Only.refl _ _).alloc _).trans (Only.ofGrown b1)).alloc _⟩ ?_
 clear b1 hB i0' k1 k6 x0 sw h hi
 rintro W ⟨m1,i1,v1,x1,o1⟩
 refine wp_region_rely Grown [.val (.agg #[.int .i64 t,.int .i64 n,.int .i64 k,.int .i64 m,.int .i64 g,.int .i64 p,.int .i64 r,.pointer (some ⟨L.p,0,none⟩),.int .i64 who]),.val (.pointer (some ⟨b,o,none⟩)),.val (.pointer (some ⟨b,o,none⟩)),.val (.pointer (some ⟨b,o,none⟩)),.val (.int .i64 (x : Nat)),.val (.bool true),.val (.bool false),.val (.bool false),.val (.agg #[.int .i64 st,.int .i64 A,.int .i64 G,.int .i64 V]),.val (.bool true),.val (.bool false),.val (.bool false),.val (.bool false)] (by kernel_rfl) Grown.refl Grown.trans (by kernel_rfl) (by kernel_rfl) (by kernel_rfl) ?_
 simp only [relyAll,Act.put,List.setIfInBounds_toArray,List.set_cons_zero,List.set_cons_succ]
 refine ⟨?_,?_,?_,?_,?_,?_,?_,?_,?_,?_,?_,?_,?_,?_⟩
 · intro w' hg _
   apply ol
   obtain ⟨y0,y1,y2,y3,y4,y5,y6,y7,y8⟩:=(v1.grown ((Below.refl _ _).drew)).grown hg
   go_simp
   exact gl
 · intros;apply ol;go_simp;exact gl
 · intros;apply ol;go_simp;exact gl
 · intros;apply ol;go_simp;exact gl
 · intro w' hg _
   apply ol
   have z:=(i1.drew.grown hg).cell0 rfl
   go_simp
   exact gl
 · intro w' hg _
   apply ol
   go_simp
   refine (ds _ (m1.drew.below hg)).mono ?_
   rintro e w'' ⟨rfl,b9⟩
   exact ⟨_,rfl,b9,rfl⟩
 · intros;apply ol;go_simp;exact gl
 · intros;apply ol;go_simp;exact gl
 · intro w' hg _
   apply ol
   have z0:=(x1.drew.grown hg).at0 0 rfl
   have z1:=(x1.drew.grown hg).at0 1 rfl
   have z2:=(x1.drew.grown hg).at0 2 rfl
   have z3:=(x1.drew.grown hg).at0 3 rfl
   go_simp
   exact gl
 · intro w' hg _
   apply ol
   go_simp
   refine (dl _).mono ?_
   rintro e w'' ⟨rfl,b9⟩
   exact ⟨_,rfl,b9,rfl⟩
 · intros;apply ol;go_simp;exact gl
 · intros;apply ol;go_simp;exact gl
 · intros;apply ol;go_simp;exact gl
 intro w5 hg _
 go_wp2
 refine wp_over (fun W=>MemAt W L s /\ At W b o T cs (HpV x was Z j se ld false wn) /\ BoxV W w.heap.size t n k m g p r L.p who /\ At W B 0 87 #[.int .i64 st,.int .i64 A,.int .i64 G,.int .i64 V] [.int .i64 st,.int .i64 A,.int .i64 G,.int .i64 V] /\ Only (L.and b) w W) ⟨m1.drew.below hg,i1.drew.grown hg,(v1.grown ((Below.refl _ _).drew)).grown hg,x1.drew.grown hg,o1.drew.trans (Only.ofGrown hg)⟩ ?_
 clear hg m1 i1 v1 x1 o1 ds dl
 rintro W ⟨m1,i1,v1,x1,o1⟩
 refine wp_region_rely Grown [.val (.pointer (some ⟨b,o,none⟩)),.val (.pointer (some ⟨b,o,none⟩)),.val (.pointer (some ⟨b,o + 3,none⟩)),.val (.int .i64 j),.val (.pointer (some ⟨b,o,none⟩)),.val (.agg #[.int .i64 t,.int .i64 n,.int .i64 k,.int .i64 m,.int .i64 g,.int .i64 p,.int .i64 r,.pointer (some ⟨L.p,0,none⟩),.int .i64 who]),.val (.agg #[.int .i64 st,.int .i64 A,.int .i64 G,.int .i64 V]),.val (.int .i64 Z),.val (.bool true),.val (.bool true)] (by kernel_rfl) Grown.refl Grown.trans (by kernel_rfl) (by kernel_rfl) (by kernel_rfl) ?_
 simp only [relyAll,Act.put,List.setIfInBounds_toArray,List.set_cons_zero,List.set_cons_succ]
 refine ⟨?_,?_,?_,?_,?_,?_,?_,?_,?_,?_,?_⟩
 · intros;apply ol;go_simp;exact gl
 · intros;apply ol;go_simp;exact gl
 · intros;apply ol;go_simp;exact gl
 · intro w' hg _
   apply ol
   have z:=(i1.drew.grown hg).cell 3 rfl
   go_simp
   exact gl
 · intros;apply ol;go_simp;exact gl
 · intro w' hg _
   apply ol
   obtain ⟨y0,y1,y2,y3,y4,y5,y6,y7,y8⟩:=(v1.grown ((Below.refl _ _).drew)).grown hg
   go_simp
   exact gl
 · intro w' hg _
   apply ol
   have z0:=(x1.drew.grown hg).at0 0 rfl
   have z1:=(x1.drew.grown hg).at0 1 rfl
   have z2:=(x1.drew.grown hg).at0 2 rfl
   have z3:=(x1.drew.grown hg).at0 3 rfl
   go_simp
   exact gl
 · intro w' hg _
   apply ol
   go_simp
   refine (hcells_ok (L:=L) hG who st A G V Z i ((i1.drew.grown hg).cell 2 rfl) (by omega) (by omega) z0 z1 i0 h1 h2).mono ?_
   rintro e w'' ⟨rfl,b9⟩
   exact ⟨_,rfl,b9,rfl⟩
 · intro w' hg _
   apply ol
   have z : decide ((j : Int) ≥ Z) = true:=HJ.out
   go_simp
   exact gl
 · intros;apply ol;go_simp;exact gl
 intro w6 hg _
 have m5:=m1.drew.below hg
 have i5:=i1.drew.grown hg
 have v5:=(v1.grown ((Below.refl _ _).drew)).grown hg
 have x5:=x1.drew.grown hg
 have o5 : Only (L.and b) w w6:=o1.drew.trans (Only.ofGrown hg)
 clear hg m1 i1 v1 x1 o1
 have k5:=i5.cell 5 rfl
 obtain ⟨y0,y1,y2,y3,y4,y5,y6,y7,y8⟩:=id v5
 have z0:=x5.at0 0 rfl
 have z1:=x5.at0 1 rfl
 have z2:=x5.at0 2 rfl
 have z3:=x5.at0 3 rfl
 go_wp2_with (go_at_call 132;refine (hc _ m5 i5).mono ?_;rintro e w7 ⟨rfl,s7,cs7,l7,m7,o7,i7,q7,x7⟩;have k6:=i7.cell 6 (hX _ _ x7))
 go_ret
 exact ⟨rfl,s7,cs7,l7,m7,o5.trans o7,i7,q7,x7⟩
set_option maxHeartbeats 400000 in
theorem hstep_freeze {w : World} {L : Loc} {s : Mm} {b o : Nat} {T : TypeId} {cs : Array Value} {t n k m : Nat} {g p r : Int} {was Z se : Int} {x j : Nat} {wn : Bool} (h : MemAt w L s) (hi : At w b o T cs (HpV x was Z j se true false wn)) (who : Int) (hG : Good t n k m g p r) (hlen : arenaLen t n k m <= s.n) (hx : x < n) {st : Int} {A : Nat} {G V : Int} (hs : SlotIs was st A G V) (hl : lifeB st = true) {i : Int} (a1 : A <= 1048575) (z0 : 1 <= Z) (z1 : Z <= 16) (i0 : 0 <= i) (h1 : chunkOf t n k m A = i) (h2 : chunkOf t n k m (A + Z) = i) (hj : j < Z) (X : Mm -> List Value -> Prop) (d : Bool) (hX : ∀ s' l',X s' l' -> l'[6]? = some (.bool d))
 (hc : ∀ w1 : World,MemAt w1 L s -> At w1 b o T cs (HpV x was Z j se true false wn) -> Calls Tryz.prog 133 #[.pointer (some ⟨b,o,none⟩),.agg #[.int .i64 t,.int .i64 n,.int .i64 k,.int .i64 m,.int .i64 g,.int .i64 p,.int .i64 r,.pointer (some ⟨L.p,0,none⟩),.int .i64 who],.agg #[.int .i64 st,.int .i64 A,.int .i64 G,.int .i64 V]] w1 fun e w'=>e = .returned (.tuple #[]) /\ Hact L b o T cs w1 w' X) :
 Calls Tryz.prog 123 #[.pointer (some ⟨b,o,none⟩),.agg #[.int .i64 t,.int .i64 n,.int .i64 k,.int .i64 m,.int .i64 g,.int .i64 p,.int .i64 r,.pointer (some ⟨L.p,0,none⟩),.int .i64 who]] w fun e w'=>e = .returned (.bool d) /\ Hact L b o T cs w w' X:=by
 have HJ : Hid (decide ((j : Int) ≥ Z) = false):=decide_eq_false (by omega)
 have sw:=hs.call
 have ds:=fun (w' : World) (m' : MemAt w' L s)=>dstands_any (x:=x) m' hG hlen who
 rw [decide_eq_true (by omega)] at ds
 have dl:=fun w=>dlives_any st A G V w
 rw [hl] at dl
 clear hs hl hj hlen hx
 have i0':=hi.grown (grow1 _ (.cells #[.int .i64 t,.int .i64 n,.int .i64 k,.int .i64 m,.int .i64 g,.int .i64 p,.int .i64 r,.pointer (some ⟨L.p,0,none⟩),.int .i64 who] 27))
 have k1:=i0'.cell 1 rfl
 have k6:=i0'.cell 6 rfl
 go_enter Tryz.func123,Tryz.ntmps123
 go_wp2_with (go_at_call 82;refine (sw _).mono ?_;rintro e w1 ⟨rfl,b1⟩)
 have x0:=At.new w1 87 [.int .i64 st,.int .i64 A,.int .i64 G,.int .i64 V]
 obtain ⟨B,hB⟩ : ∃ B,w1.heap.size = B:=⟨_,rfl⟩
 rw [hB] at x0 ⊢
 refine wp_over (fun W=>MemAt W L s /\ At W b o T cs (HpV x was Z j se true false wn) /\ BoxV W w.heap.size t n k m g p r L.p who /\ At W B 0 87 #[.int .i64 st,.int .i64 A,.int .i64 G,.int .i64 V] [.int .i64 st,.int .i64 A,.int .i64 G,.int .i64 V] /\ Only (L.and b) w W) ⟨((h.alloc _).below b1).alloc _,(i0'.grown b1).grown (grow1 _ _),(BoxV.new.grown b1).grown (grow1 _ _),x0,(((Only.refl _ _).alloc _).trans (Only.ofGrown b1)).alloc _⟩ ?_
 clear b1 hB i0' k1 k6 x0 sw h hi
 rintro W ⟨m1,i1,v1,x1,o1⟩
 refine wp_region_rely Grown [.val (.agg #[.int .i64 t,.int .i64 n,.int .i64 k,.int .i64 m,.int .i64 g,.int .i64 p,.int .i64 r,.pointer (some ⟨L.p,0,none⟩),.int .i64 who]),.val (.pointer (some ⟨b,o,none⟩)),.val (.pointer (some ⟨b,o,none⟩)),.val (.pointer (some ⟨b,o,none⟩)),.val (.int .i64 (x : Nat)),.val (.bool true),.val (.bool false),.val (.bool false),.val (.agg #[.int .i64 st,.int .i64 A,.int .i64 G,.int .i64 V]),.val (.bool true),.val (.bool false),.val (.bool false),.val (.bool false)] (by kernel_rfl) Grown.refl Grown.trans (by kernel_rfl) (by kernel_rfl) (by kernel_rfl) ?_
 simp only [relyAll,Act.put,List.setIfInBounds_toArray,List.set_cons_zero,List.set_cons_succ]
 refine ⟨?_,?_,?_,?_,?_,?_,?_,?_,?_,?_,?_,?_,?_,?_⟩
 · intro w' hg _
   apply ol
   obtain ⟨y0,y1,y2,y3,y4,y5,y6,y7,y8⟩:=(v1.grown ((Below.refl _ _).drew)).grown hg
   go_simp
   exact gl
 · intros;apply ol;go_simp;exact gl
 · intros;apply ol;go_simp;exact gl
 · intros;apply ol;go_simp;exact gl
 · intro w' hg _
   apply ol
   have z:=(i1.drew.grown hg).cell0 rfl
   go_simp
   exact gl
 · intro w' hg _
   apply ol
   go_simp
   refine (ds _ (m1.drew.below hg)).mono ?_
   rintro e w'' ⟨rfl,b9⟩
   exact ⟨_,rfl,b9,rfl⟩
 · intros;apply ol;go_simp;exact gl
 · intros;apply ol;go_simp;exact gl
 · intro w' hg _
   apply ol
   have z0:=(x1.drew.grown hg).at0 0 rfl
   have z1:=(x1.drew.grown hg).at0 1 rfl
   have z2:=(x1.drew.grown hg).at0 2 rfl
   have z3:=(x1.drew.grown hg).at0 3 rfl
   go_simp
   exact gl
 · intro w' hg _
   apply ol
   go_simp
   refine (dl _).mono ?_
   rintro e w'' ⟨rfl,b9⟩
   exact ⟨_,rfl,b9,rfl⟩
 · intros;apply ol;go_simp;exact gl
 · intros;apply ol;go_simp;exact gl
 · intros;apply ol;go_simp;exact gl
 intro w5 hg _
 go_wp2
 refine wp_over (fun W=>MemAt W L s /\ At W b o T cs (HpV x was Z j se true false wn) /\ BoxV W w.heap.size t n k m g p r L.p who /\ At W B 0 87 #[.int .i64 st,.int .i64 A,.int .i64 G,.int .i64 V] [.int .i64 st,.int .i64 A,.int .i64 G,.int .i64 V] /\ Only (L.and b) w W) ⟨m1.drew.below hg,i1.drew.grown hg,(v1.grown ((Below.refl _ _).drew)).grown hg,x1.drew.grown hg,o1.drew.trans (Only.ofGrown hg)⟩ ?_
 clear hg m1 i1 v1 x1 o1 ds dl
 rintro W ⟨m1,i1,v1,x1,o1⟩
 refine wp_region_rely Grown [.val (.pointer (some ⟨b,o,none⟩)),.val (.pointer (some ⟨b,o,none⟩)),.val (.pointer (some ⟨b,o + 3,none⟩)),.val (.int .i64 j),.val (.pointer (some ⟨b,o,none⟩)),.val (.agg #[.int .i64 t,.int .i64 n,.int .i64 k,.int .i64 m,.int .i64 g,.int .i64 p,.int .i64 r,.pointer (some ⟨L.p,0,none⟩),.int .i64 who]),.val (.agg #[.int .i64 st,.int .i64 A,.int .i64 G,.int .i64 V]),.val (.int .i64 Z),.val (.bool false),.val (.bool false)] (by kernel_rfl) Grown.refl Grown.trans (by kernel_rfl) (by kernel_rfl) (by kernel_rfl) ?_
 simp only [relyAll,Act.put,List.setIfInBounds_toArray,List.set_cons_zero,List.set_cons_succ]
 refine ⟨?_,?_,?_,?_,?_,?_,?_,?_,?_,?_,?_⟩
 · intros;apply ol;go_simp;exact gl
 · intros;apply ol;go_simp;exact gl
 · intros;apply ol;go_simp;exact gl
 · intro w' hg _
   apply ol
   have z:=(i1.drew.grown hg).cell 3 rfl
   go_simp
   exact gl
 · intros;apply ol;go_simp;exact gl
 · intro w' hg _
   apply ol
   obtain ⟨y0,y1,y2,y3,y4,y5,y6,y7,y8⟩:=(v1.grown ((Below.refl _ _).drew)).grown hg
   go_simp
   exact gl
 · intro w' hg _
   apply ol
   have z0:=(x1.drew.grown hg).at0 0 rfl
   have z1:=(x1.drew.grown hg).at0 1 rfl
   have z2:=(x1.drew.grown hg).at0 2 rfl
   have z3:=(x1.drew.grown hg).at0 3 rfl
   go_simp
   exact gl
 · intro w' hg _
   apply ol
   go_simp
   refine (hcells_ok (L:=L) hG who st A G V Z i ((i1.drew.grown hg).cell 2 rfl) (by omega) (by omega) z0 z1 i0 h1 h2).mono ?_
   rintro e w'' ⟨rfl,b9⟩
   exact ⟨_,rfl,b9,rfl⟩
 · intro w' hg _
   apply ol
   have z : decide ((j : Int) ≥ Z) = false:=HJ.out
   go_simp
   exact gl
 · intros;apply ol;go_simp;exact gl
 intro w6 hg _
 have m5:=m1.drew.below hg
 have i5:=i1.drew.grown hg
 have v5:=(v1.grown ((Below.refl _ _).drew)).grown hg
 have x5:=x1.drew.grown hg
 have o5 : Only (L.and b) w w6:=o1.drew.trans (Only.ofGrown hg)
 clear hg m1 i1 v1 x1 o1
 have k5:=i5.cell 5 rfl
 obtain ⟨y0,y1,y2,y3,y4,y5,y6,y7,y8⟩:=id v5
 have z0:=x5.at0 0 rfl
 have z1:=x5.at0 1 rfl
 have z2:=x5.at0 2 rfl
 have z3:=x5.at0 3 rfl
 go_wp2_with (go_at_call 133;refine (hc _ m5 i5).mono ?_;rintro e w7 ⟨rfl,s7,cs7,l7,m7,o7,i7,q7,x7⟩;have k6:=i7.cell 6 (hX _ _ x7))
 go_ret
 exact ⟨rfl,s7,cs7,l7,m7,o5.trans o7,i7,q7,x7⟩
set_option maxHeartbeats 400000 in
theorem hstep_load {w : World} {L : Loc} {s : Mm} {b o : Nat} {T : TypeId} {cs : Array Value} {t n k m : Nat} {g p r : Int} {was Z se : Int} {x j : Nat} {wn : Bool} (h : MemAt w L s) (hi : At w b o T cs (HpV x was Z j se false false wn)) (who : Int) (hG : Good t n k m g p r) (hlen : arenaLen t n k m <= s.n) (hx : x < n) {st : Int} {A : Nat} {G V : Int} (hs : SlotIs was st A G V) (hl : lifeB st = true) {i : Int} (a1 : A <= 1048575) (z0 : 1 <= Z) (z1 : Z <= 16) (i0 : 0 <= i) (h1 : chunkOf t n k m A = i) (h2 : chunkOf t n k m (A + Z) = i) (hj : j < Z) (X : Mm -> List Value -> Prop) (d : Bool) (hX : ∀ s' l',X s' l' -> l'[6]? = some (.bool d))
 (hc : ∀ w1 : World,MemAt w1 L s -> At w1 b o T cs (HpV x was Z j se false false wn) -> Calls Tryz.prog 134 #[.pointer (some ⟨b,o,none⟩),.agg #[.int .i64 t,.int .i64 n,.int .i64 k,.int .i64 m,.int .i64 g,.int .i64 p,.int .i64 r,.pointer (some ⟨L.p,0,none⟩),.int .i64 who],.agg #[.int .i64 st,.int .i64 A,.int .i64 G,.int .i64 V]] w1 fun e w'=>e = .returned (.tuple #[]) /\ Hact L b o T cs w1 w' X) :
 Calls Tryz.prog 123 #[.pointer (some ⟨b,o,none⟩),.agg #[.int .i64 t,.int .i64 n,.int .i64 k,.int .i64 m,.int .i64 g,.int .i64 p,.int .i64 r,.pointer (some ⟨L.p,0,none⟩),.int .i64 who]] w fun e w'=>e = .returned (.bool d) /\ Hact L b o T cs w w' X:=by
 have HJ : Hid (decide ((j : Int) ≥ Z) = false):=decide_eq_false (by omega)
 have sw:=hs.call
 have ds:=fun (w' : World) (m' : MemAt w' L s)=>dstands_any (x:=x) m' hG hlen who
 rw [decide_eq_true (by omega)] at ds
 have dl:=fun w=>dlives_any st A G V w
 rw [hl] at dl
 clear hs hl hj hlen hx
 have i0':=hi.grown (grow1 _ (.cells #[.int .i64 t,.int .i64 n,.int .i64 k,.int .i64 m,.int .i64 g,.int .i64 p,.int .i64 r,.pointer (some ⟨L.p,0,none⟩),.int .i64 who] 27))
 have k1:=i0'.cell 1 rfl
 have k6:=i0'.cell 6 rfl
 go_enter Tryz.func123,Tryz.ntmps123
 go_wp2_with (go_at_call 82;refine (sw _).mono ?_;rintro e w1 ⟨rfl,b1⟩)
 have x0:=At.new w1 87 [.int .i64 st,.int .i64 A,.int .i64 G,.int .i64 V]
 obtain ⟨B,hB⟩ : ∃ B,w1.heap.size = B:=⟨_,rfl⟩
 rw [hB] at x0 ⊢
 refine wp_over (fun W=>MemAt W L s /\ At W b o T cs (HpV x was Z j se false false wn) /\ BoxV W w.heap.size t n k m g p r L.p who /\ At W B 0 87 #[.int .i64 st,.int .i64 A,.int .i64 G,.int .i64 V] [.int .i64 st,.int .i64 A,.int .i64 G,.int .i64 V] /\ Only (L.and b) w W) ⟨((h.alloc _).below b1).alloc _,(i0'.grown b1).grown (grow1 _ _),(BoxV.new.grown b1).grown (grow1 _ _),x0,(((Only.refl _ _).alloc _).trans (Only.ofGrown b1)).alloc _⟩ ?_
 clear b1 hB i0' k1 k6 x0 sw h hi
 rintro W ⟨m1,i1,v1,x1,o1⟩
 refine wp_region_rely Grown [.val (.agg #[.int .i64 t,.int .i64 n,.int .i64 k,.int .i64 m,.int .i64 g,.int .i64 p,.int .i64 r,.pointer (some ⟨L.p,0,none⟩),.int .i64 who]),.val (.pointer (some ⟨b,o,none⟩)),.val (.pointer (some ⟨b,o,none⟩)),.val (.pointer (some ⟨b,o,none⟩)),.val (.int .i64 (x : Nat)),.val (.bool true),.val (.bool false),.val (.bool false),.val (.agg #[.int .i64 st,.int .i64 A,.int .i64 G,.int .i64 V]),.val (.bool true),.val (.bool false),.val (.bool false),.val (.bool false)] (by kernel_rfl) Grown.refl Grown.trans (by kernel_rfl) (by kernel_rfl) (by kernel_rfl) ?_
 simp only [relyAll,Act.put,List.setIfInBounds_toArray,List.set_cons_zero,List.set_cons_succ]
 refine ⟨?_,?_,?_,?_,?_,?_,?_,?_,?_,?_,?_,?_,?_,?_⟩
 · intro w' hg _
   apply ol
   obtain ⟨y0,y1,y2,y3,y4,y5,y6,y7,y8⟩:=(v1.grown ((Below.refl _ _).drew)).grown hg
   go_simp
   exact gl
 · intros;apply ol;go_simp;exact gl
 · intros;apply ol;go_simp;exact gl
 · intros;apply ol;go_simp;exact gl
 · intro w' hg _
   apply ol
   have z:=(i1.drew.grown hg).cell0 rfl
   go_simp
   exact gl
 · intro w' hg _
   apply ol
   go_simp
   refine (ds _ (m1.drew.below hg)).mono ?_
   rintro e w'' ⟨rfl,b9⟩
   exact ⟨_,rfl,b9,rfl⟩
 · intros;apply ol;go_simp;exact gl
 · intros;apply ol;go_simp;exact gl
 · intro w' hg _
   apply ol
   have z0:=(x1.drew.grown hg).at0 0 rfl
   have z1:=(x1.drew.grown hg).at0 1 rfl
   have z2:=(x1.drew.grown hg).at0 2 rfl
   have z3:=(x1.drew.grown hg).at0 3 rfl
   go_simp
   exact gl
 · intro w' hg _
   apply ol
   go_simp
   refine (dl _).mono ?_
   rintro e w'' ⟨rfl,b9⟩
   exact ⟨_,rfl,b9,rfl⟩
 · intros;apply ol;go_simp;exact gl
 · intros;apply ol;go_simp;exact gl
 · intros;apply ol;go_simp;exact gl
 intro w5 hg _
 go_wp2
 refine wp_over (fun W=>MemAt W L s /\ At W b o T cs (HpV x was Z j se false false wn) /\ BoxV W w.heap.size t n k m g p r L.p who /\ At W B 0 87 #[.int .i64 st,.int .i64 A,.int .i64 G,.int .i64 V] [.int .i64 st,.int .i64 A,.int .i64 G,.int .i64 V] /\ Only (L.and b) w W) ⟨m1.drew.below hg,i1.drew.grown hg,(v1.grown ((Below.refl _ _).drew)).grown hg,x1.drew.grown hg,o1.drew.trans (Only.ofGrown hg)⟩ ?_
 clear hg m1 i1 v1 x1 o1 ds dl
 rintro W ⟨m1,i1,v1,x1,o1⟩
 refine wp_region_rely Grown [.val (.pointer (some ⟨b,o,none⟩)),.val (.pointer (some ⟨b,o,none⟩)),.val (.pointer (some ⟨b,o + 3,none⟩)),.val (.int .i64 j),.val (.pointer (some ⟨b,o,none⟩)),.val (.agg #[.int .i64 t,.int .i64 n,.int .i64 k,.int .i64 m,.int .i64 g,.int .i64 p,.int .i64 r,.pointer (some ⟨L.p,0,none⟩),.int .i64 who]),.val (.agg #[.int .i64 st,.int .i64 A,.int .i64 G,.int .i64 V]),.val (.int .i64 Z),.val (.bool false),.val (.bool false)] (by kernel_rfl) Grown.refl Grown.trans (by kernel_rfl) (by kernel_rfl) (by kernel_rfl) ?_
 simp only [relyAll,Act.put,List.setIfInBounds_toArray,List.set_cons_zero,List.set_cons_succ]
 refine ⟨?_,?_,?_,?_,?_,?_,?_,?_,?_,?_,?_⟩
 · intros;apply ol;go_simp;exact gl
 · intros;apply ol;go_simp;exact gl
 · intros;apply ol;go_simp;exact gl
 · intro w' hg _
   apply ol
   have z:=(i1.drew.grown hg).cell 3 rfl
   go_simp
   exact gl
 · intros;apply ol;go_simp;exact gl
 · intro w' hg _
   apply ol
   obtain ⟨y0,y1,y2,y3,y4,y5,y6,y7,y8⟩:=(v1.grown ((Below.refl _ _).drew)).grown hg
   go_simp
   exact gl
 · intro w' hg _
   apply ol
   have z0:=(x1.drew.grown hg).at0 0 rfl
   have z1:=(x1.drew.grown hg).at0 1 rfl
   have z2:=(x1.drew.grown hg).at0 2 rfl
   have z3:=(x1.drew.grown hg).at0 3 rfl
   go_simp
   exact gl
 · intro w' hg _
   apply ol
   go_simp
   refine (hcells_ok (L:=L) hG who st A G V Z i ((i1.drew.grown hg).cell 2 rfl) (by omega) (by omega) z0 z1 i0 h1 h2).mono ?_
   rintro e w'' ⟨rfl,b9⟩
   exact ⟨_,rfl,b9,rfl⟩
 · intro w' hg _
   apply ol
   have z : decide ((j : Int) ≥ Z) = false:=HJ.out
   go_simp
   exact gl
 · intros;apply ol;go_simp;exact gl
 intro w6 hg _
 have m5:=m1.drew.below hg
 have i5:=i1.drew.grown hg
 have v5:=(v1.grown ((Below.refl _ _).drew)).grown hg
 have x5:=x1.drew.grown hg
 have o5 : Only (L.and b) w w6:=o1.drew.trans (Only.ofGrown hg)
 clear hg m1 i1 v1 x1 o1
 have k5:=i5.cell 5 rfl
 obtain ⟨y0,y1,y2,y3,y4,y5,y6,y7,y8⟩:=id v5
 have z0:=x5.at0 0 rfl
 have z1:=x5.at0 1 rfl
 have z2:=x5.at0 2 rfl
 have z3:=x5.at0 3 rfl
 go_wp2_with (go_at_call 134;refine (hc _ m5 i5).mono ?_;rintro e w7 ⟨rfl,s7,cs7,l7,m7,o7,i7,q7,x7⟩;have k6:=i7.cell 6 (hX _ _ x7))
 go_ret
 exact ⟨rfl,s7,cs7,l7,m7,o5.trans o7,i7,q7,x7⟩
theorem newHelp_any (x was Z : Int) (w : World) :
 Calls Tryz.prog 129 #[.int .i64 x,.int .u64 was,.int .i64 Z] w fun e w'=>e = .returned (.pointer (some ⟨w.heap.size,0,none⟩)) /\ w' = w.alloc (.cells (HpV x was Z 0 0 false false false).toArray 110):=by
 unfold HpV
 go_enter Tryz.func129,Tryz.ntmps129
 go_wp2
 go_ret
 exact ⟨rfl,rfl⟩
end Go.Proofs.YtlolfmoolgenpaaGreat
