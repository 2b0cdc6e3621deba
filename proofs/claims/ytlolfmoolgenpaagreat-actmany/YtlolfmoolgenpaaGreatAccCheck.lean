import Derived.Test.YtlolfmoolgenpaaGreatAccAt
import Derived.Test.YtlolfmoolgenpaaGreatAllocCamp
namespace Go.Proofs.YtlolfmoolgenpaaGreat
open Go.RowKit
set_option maxRecDepth 20000
theorem aknown_yes {kd : Int} (h : kd = 1 \/ kd = 2 \/ kd = 3) (w : World) :
 Calls Tryz.prog 143 #[.int .i64 kd] w fun e w'=>e = .returned (.bool true) /\ w' = w:=by
 rcases h with rfl | rfl | rfl
 all_goals
  go_enter Tryz.func143,Tryz.ntmps143
  go_wp2
  go_ret
  exact ⟨rfl,rfl⟩
theorem astands_any {w : World} {L : Loc} {s : Mm} {t n k m : Nat} {g p r : Int} (h : MemAt w L s) (hG : Good t n k m g p r) (hl : arenaLen t n k m <= s.n) (who : Int) (x : Nat) :
 Calls Tryz.prog 145 #[.agg #[.int .i64 t,.int .i64 n,.int .i64 k,.int .i64 m,.int .i64 g,.int .i64 p,.int .i64 r,.pointer (some ⟨L.p,0,none⟩),.int .i64 who],.int .i64 x] w fun e w'=>e = .returned (.bool (decide ((x : Int) < n))) /\ Below w.heap.size w w':=by
 go_enter Tryz.func145,Tryz.ntmps145
 go_wp2
 refine wp_over (fun W=>MemAt W L s /\ BoxV W w.heap.size t n k m g p r L.p who /\ Below w.heap.size w W) ⟨h.alloc _,BoxV.new,grow1 _ _⟩ ?_
 rintro W ⟨m1,v1,o1⟩
 refine wp_region_rely Grown [.val (.pointer (some ⟨w.heap.size,0,none⟩)),.val (.agg #[.int .i64 t,.int .i64 n,.int .i64 k,.int .i64 m,.int .i64 g,.int .i64 p,.int .i64 r]),.val (.bool true),.val (.bool true),.val (.pointer (some ⟨w.heap.size,7,none⟩)),.val (.pointer (some ⟨L.p,0,none⟩)),.val (.int .i64 s.n),.val (.pointer (some ⟨w.heap.size,0,none⟩)),.val (.agg #[.int .i64 t,.int .i64 n,.int .i64 k,.int .i64 m,.int .i64 g,.int .i64 p,.int .i64 r]),.val (.int .i64 (arenaLen t n k m : Nat)),.val (.bool true),.val (.bool true),.val (.bool true),.val (.int .i64 x),.val (.pointer (some ⟨w.heap.size,0,none⟩)),.val (.pointer (some ⟨w.heap.size,1,none⟩)),.val (.int .i64 n),.val (.bool (decide ((x : Int) < n))),.val (.bool (decide ((x : Int) < n))),.val (.bool (decide ((x : Int) < n)))] (by kernel_rfl) Grown.refl Grown.trans (by kernel_rfl) (by kernel_rfl) (by kernel_rfl) ?_
 simp only [relyAll,Act.put,List.setIfInBounds_toArray,List.set_cons_zero,List.set_cons_succ]
 refine ⟨?_,?_,?_,?_,?_,?_,?_,?_,?_,?_,?_,?_,?_,?_,?_,?_,?_,?_,?_,?_,?_⟩
 · intros;apply ol;go_simp;exact gl
 · intro w' hg _
   apply ol
   obtain ⟨y0,y1,y2,y3,y4,y5,y6,y7,y8⟩:=(v1.grown ((Below.refl _ _).drew)).grown hg
   go_simp
   exact gl
 · intro w' hg _
   apply ol
   go_simp
   refine (lcheck_yes hG _).mono ?_
   rintro e w'' ⟨rfl,b9⟩
   exact ⟨_,rfl,b9,rfl⟩
 · intros;apply ol;go_simp;exact gl
 · intros;apply ol;go_simp;exact gl
 · intro w' hg _
   apply ol
   obtain ⟨y0,y1,y2,y3,y4,y5,y6,y7,y8⟩:=(v1.grown ((Below.refl _ _).drew)).grown hg
   go_simp
   exact gl
 · intro w' hg _
   apply ol
   go_simp
   refine (len_any (m1.drew.below hg)).mono ?_
   rintro e w'' ⟨rfl,rfl⟩
   exact ⟨_,rfl,Grown.refl _,rfl⟩
 · intros;apply ol;go_simp;exact gl
 · intro w' hg _
   apply ol
   obtain ⟨y0,y1,y2,y3,y4,y5,y6,y7,y8⟩:=(v1.grown ((Below.refl _ _).drew)).grown hg
   go_simp
   exact gl
 · intro w' hg _
   apply ol
   go_simp
   refine (llen_good hG _).mono ?_
   rintro e w'' ⟨rfl,b9⟩
   exact ⟨_,rfl,b9,rfl⟩
 · intro w' hg _
   apply ol
   have z : decide ((s.n : Int) ≥ ((arenaLen t n k m : Nat) : Int)) = true:=decide_eq_true (by omega)
   go_simp
   exact gl
 · intros;apply ol;go_simp;exact gl
 · intros;apply ol;go_simp;exact gl
 · intros;apply ol;go_simp;exact gl
 · intros;apply ol;go_simp;exact gl
 · intros;apply ol;go_simp;exact gl
 · intro w' hg _
   apply ol
   obtain ⟨y0,y1,y2,y3,y4,y5,y6,y7,y8⟩:=(v1.grown ((Below.refl _ _).drew)).grown hg
   go_simp
   exact gl
 · intros;apply ol;go_simp;exact gl
 · intros;apply ol;go_simp;exact gl
 · intros;apply ol;go_simp;exact gl
 intro w5 hg _
 go_wp2
 go_ret
 exact ⟨rfl,grow (o1.trans ((Below.refl _ _).drew)) hg⟩
theorem aplace_any {w : World} {b o : Nat} (st A G V j : Int) (hz : w.cell? ⟨b,o + 3,none⟩ = some (.int .i64 j)) (a0 : 0 <= A) (a1 : A <= 1048575) (j0 : 0 <= j) (j1 : j <= 65536) :
 Calls Tryz.prog 154 #[.pointer (some ⟨b,o,none⟩),.agg #[.int .i64 st,.int .i64 A,.int .i64 G,.int .i64 V]] w fun e w'=>e = .returned (.int .i64 (A + 1 + j)) /\ Below w.heap.size w w':=by
 go_enter Tryz.func154,Tryz.ntmps154
 go_wp2
 refine wp_over (fun W=>W.cell? ⟨b,o + 3,none⟩ = some (.int .i64 j) /\ At W w.heap.size 0 87 #[.int .i64 st,.int .i64 A,.int .i64 G,.int .i64 V] [.int .i64 st,.int .i64 A,.int .i64 G,.int .i64 V] /\ Below w.heap.size w W) ⟨keep' (grow1 _ _) hz,At.new _ _ _,grow1 _ _⟩ ?_
 rintro W ⟨i1,x1,o1⟩
 refine wp_region_rely Grown [.val (.pointer (some ⟨w.heap.size,1,none⟩)),.val (.int .i64 A),.val (.int .i64 (A + 1)),.val (.pointer (some ⟨b,o,none⟩)),.val (.pointer (some ⟨b,o,none⟩)),.val (.pointer (some ⟨b,o + 1,none⟩)),.val (.pointer (some ⟨b,o + 3,none⟩)),.val (.int .i64 j),.val (.int .i64 (A + 1 + j)),.val (.int .i64 (A + 1 + j))] (by kernel_rfl) Grown.refl Grown.trans (by kernel_rfl) (by kernel_rfl) (by kernel_rfl) ?_
 simp only [relyAll,Act.put,List.setIfInBounds_toArray,List.set_cons_zero,List.set_cons_succ]
 refine ⟨?_,?_,?_,?_,?_,?_,?_,?_,?_,?_,?_⟩
 · intros;apply ol;go_simp;exact gl
 · intro w' hg _
   apply ol
   have z:=(x1.drew.grown hg).at0 1 rfl
   go_simp
   exact gl
 · intro w' hg _
   apply ol
   go_simp
   exact ⟨Grown.refl _,congrArg (Value.int .i64) (by rw [IntKind.wrap_i64];omega)⟩
 · intros;apply ol;go_simp;exact gl
 · intros;apply ol;go_simp;exact gl
 · intros;apply ol;go_simp;exact gl
 · intros;apply ol;go_simp;exact gl
 · intro w' hg _
   apply ol
   have z:=keep' hg (keep' ((Below.refl _ _).drew) i1)
   go_simp
   exact gl
 · intro w' hg _
   apply ol
   go_simp
   exact ⟨Grown.refl _,congrArg (Value.int .i64) (by rw [IntKind.wrap_i64];omega)⟩
 · intros;apply ol;go_simp;exact gl
 intro w5 hg _
 go_wp2
 go_ret
 exact ⟨rfl,grow (o1.trans ((Below.refl _ _).drew)) hg⟩
theorem aother_no {w : World} {b o : Nat} {T : TypeId} {cs : Array Value} {a : CV} (hi : AcAt w b o T cs a) (z : Int) (fz : Bool) (vr : Int) (hk : a.kd ≠ 3) :
 Calls Tryz.prog 156 #[.pointer (some ⟨b,o,none⟩),.agg #[.int .i64 z,.bool fz,.int .i64 vr]] w fun e w'=>e = .returned (.bool false) /\ Below w.heap.size w w':=by
 go_enter Tryz.func156,Tryz.ntmps156
 go_wp2
 refine wp_over (fun W=>AcAt W b o T cs a /\ At W w.heap.size 0 185 #[.int .i64 z,.bool fz,.int .i64 vr] [.int .i64 z,.bool fz,.int .i64 vr] /\ Below w.heap.size w W) ⟨hi.grown (grow1 _ _),At.new _ _ _,grow1 _ _⟩ ?_
 rintro W ⟨i1,x1,o1⟩
 refine wp_region_rely Grown [.val (.pointer (some ⟨b,o,none⟩)),.val (.pointer (some ⟨b,o,none⟩)),.val (.pointer (some ⟨b,o + 1,none⟩)),.val (.pointer (some ⟨b,o + 1,none⟩)),.val (.int .i64 a.kd),.val (.bool false),.val (.bool false),.val undef,.val undef,.val undef,.val undef,.val undef,.val undef,.val undef,.val undef,.val (.bool false),.val (.bool false)] (by kernel_rfl) Grown.refl Grown.trans (by kernel_rfl) (by kernel_rfl) (by kernel_rfl) ?_
 simp only [relyAll,Act.put,List.setIfInBounds_toArray,List.set_cons_zero,List.set_cons_succ]
 refine ⟨?_,?_,?_,?_,?_,?_,?_,?_,?_,?_,?_,?_,?_,?_,?_,?_,?_,?_⟩
 · intros;apply ol;go_simp;exact gl
 · intros;apply ol;go_simp;exact gl
 · intros;apply ol;go_simp;exact gl
 · intros;apply ol;go_simp;exact gl
 · intro w' hg _
   apply ol
   have z:=(i1.drew.grown hg).c_kd
   go_simp
   exact gl
 · intro w' hg _
   apply ol
   go_simp
   refine ⟨Grown.refl _,?_⟩
   first
    | rfl
    | (simp [Want.pred];done)
    | (simp [Want.pred];omega)
    | exact congrArg Value.bool (decide_eq_false hk)
 · intros;apply ol;go_simp;exact gl
 · intros;exact ur
 · intros;exact ur
 · intros;exact ur
 · intros;exact ur
 · intros;exact ur
 · intros;exact ur
 · intros;exact ur
 · intros;exact ur
 · intros;apply ol;go_simp;exact gl
 · intros;apply ol;go_simp;exact gl
 intro w5 hg _
 go_wp2
 go_ret
 exact ⟨rfl,grow (o1.trans ((Below.refl _ _).drew)) hg⟩
theorem aother_three {w : World} {b o : Nat} {T : TypeId} {cs : Array Value} {a : CV} (hi : AcAt w b o T cs a) (z : Int) (fz : Bool) (vr : Int) (hk : a.kd = 3) :
 Calls Tryz.prog 156 #[.pointer (some ⟨b,o,none⟩),.agg #[.int .i64 z,.bool fz,.int .i64 vr]] w fun e w'=>e = .returned (.bool (decide (z ≠ a.ol))) /\ Below w.heap.size w w':=by
 go_enter Tryz.func156,Tryz.ntmps156
 go_wp2
 refine wp_over (fun W=>AcAt W b o T cs a /\ At W w.heap.size 0 185 #[.int .i64 z,.bool fz,.int .i64 vr] [.int .i64 z,.bool fz,.int .i64 vr] /\ Below w.heap.size w W) ⟨hi.grown (grow1 _ _),At.new _ _ _,grow1 _ _⟩ ?_
 rintro W ⟨i1,x1,o1⟩
 refine wp_region_rely Grown [.val (.pointer (some ⟨b,o,none⟩)),.val (.pointer (some ⟨b,o,none⟩)),.val (.pointer (some ⟨b,o + 1,none⟩)),.val (.pointer (some ⟨b,o + 1,none⟩)),.val (.int .i64 3),.val (.bool true),.val (.bool true),.val (.pointer (some ⟨w.heap.size,0,none⟩)),.val (.int .i64 z),.val (.pointer (some ⟨b,o,none⟩)),.val (.pointer (some ⟨b,o,none⟩)),.val (.pointer (some ⟨b,o + 1,none⟩)),.val (.pointer (some ⟨b,o + 5,none⟩)),.val (.int .i64 a.ol),.val (.bool (decide (z ≠ a.ol))),.val (.bool (decide (z ≠ a.ol))),.val (.bool (decide (z ≠ a.ol)))] (by kernel_rfl) Grown.refl Grown.trans (by kernel_rfl) (by kernel_rfl) (by kernel_rfl) ?_
 simp only [relyAll,Act.put,List.setIfInBounds_toArray,List.set_cons_zero,List.set_cons_succ]
 refine ⟨?_,?_,?_,?_,?_,?_,?_,?_,?_,?_,?_,?_,?_,?_,?_,?_,?_,?_⟩
 · intros;apply ol;go_simp;exact gl
 · intros;apply ol;go_simp;exact gl
 · intros;apply ol;go_simp;exact gl
 · intros;apply ol;go_simp;exact gl
 · intro w' hg _
   apply ol
   have z:=(i1.drew.grown hg).c_kd
   rw [hk] at z
   go_simp
   exact gl
 · intros;apply ol;go_simp;exact gl
 · intros;apply ol;go_simp;exact gl
 · intros;apply ol;go_simp;exact gl
 · intro w' hg _
   apply ol
   have z:=(x1.drew.grown hg).at0 0 rfl
   go_simp
   exact gl
 · intros;apply ol;go_simp;exact gl
 · intros;apply ol;go_simp;exact gl
 · intros;apply ol;go_simp;exact gl
 · intros;apply ol;go_simp;exact gl
 · intro w' hg _
   apply ol
   have z:=(i1.drew.grown hg).c_ol
   go_simp
   exact gl
 · intro w' hg _
   apply ol
   go_simp
   refine ⟨Grown.refl _,?_⟩
   first
    | rfl
    | (simp [Want.pred];done)
    | (simp [Want.pred];omega)
    | exact congrArg Value.bool (by simp)
 · intros;apply ol;go_simp;exact gl
 · intros;apply ol;go_simp;exact gl
 intro w5 hg _
 go_wp2
 go_ret
 exact ⟨rfl,grow (o1.trans ((Below.refl _ _).drew)) hg⟩
def CV.oth (a : CV) (z : Int) : Bool:=decide (a.kd = 3) && decide (z ≠ a.ol)
theorem aother_any {w : World} {b o : Nat} {T : TypeId} {cs : Array Value} {a : CV} (hi : AcAt w b o T cs a) (z : Int) (fz : Bool) (vr : Int) :
 Calls Tryz.prog 156 #[.pointer (some ⟨b,o,none⟩),.agg #[.int .i64 z,.bool fz,.int .i64 vr]] w fun e w'=>e = .returned (.bool (a.oth z)) /\ Below w.heap.size w w':=by
 unfold CV.oth
 by_cases hk : a.kd = 3
 · rw [decide_eq_true hk,Bool.true_and];exact aother_three hi z fz vr hk
 · rw [decide_eq_false hk,Bool.false_and];exact aother_no hi z fz vr hk
theorem areads_any {w : World} {b o : Nat} {T : TypeId} {cs : Array Value} {a : CV} (hi : AcAt w b o T cs a) (z : Int) (fz : Bool) (vr : Int) :
 Calls Tryz.prog 155 #[.pointer (some ⟨b,o,none⟩),.agg #[.int .i64 z,.bool fz,.int .i64 vr]] w fun e w'=>e = .returned (.bool (decide (a.kd = 1) || a.oth z)) /\ Below w.heap.size w w':=by
 have i1:=hi.grown (grow1 _ (.cells #[.int .i64 z,.bool fz,.int .i64 vr] 185))
 have x1:=At.new w 185 [.int .i64 z,.bool fz,.int .i64 vr]
 have k0:=i1.c_kd
 have z0:=x1.at0 0 rfl
 have z1:=x1.at0 1 rfl
 have z2:=x1.at0 2 rfl
 by_cases hk : a.kd = 1
 · rw [decide_eq_true hk,Bool.true_or]
   rw [hk] at k0
   go_enter Tryz.func155,Tryz.ntmps155
   go_wp2
   go_ret
   exact ⟨rfl,grow1 _ _⟩
 · rw [decide_eq_false hk,Bool.false_or]
   have hk' : (a.kd == 1) = false:=by simpa using hk
   go_enter Tryz.func155,Tryz.ntmps155
   go_wp2_with (go_at_call 156;refine (aother_any i1 z fz vr).mono ?_;rintro e w2 ⟨rfl,b2⟩)
   go_ret
   exact ⟨rfl,grow (grow1 _ _) b2⟩
theorem ahas_low {w : World} {b o : Nat} {T : TypeId} {cs : Array Value} {a : CV} {t n k m : Nat} {g p r : Int} (hi : AcAt w b o T cs a) (A : Int) (h : a.ix < 0) :
 Calls Tryz.prog 153 #[.pointer (some ⟨b,o,none⟩),.agg #[.int .i64 t,.int .i64 n,.int .i64 k,.int .i64 m,.int .i64 g,.int .i64 p,.int .i64 r],.int .i64 A] w fun e w'=>e = .returned (.bool false) /\ Below w.heap.size w w':=by
 go_enter Tryz.func153,Tryz.ntmps153
 go_wp2
 refine wp_over (fun W=>AcAt W b o T cs a /\ At W w.heap.size 0 24 #[.int .i64 t,.int .i64 n,.int .i64 k,.int .i64 m,.int .i64 g,.int .i64 p,.int .i64 r] [.int .i64 t,.int .i64 n,.int .i64 k,.int .i64 m,.int .i64 g,.int .i64 p,.int .i64 r] /\ Below w.heap.size w W) ⟨hi.grown (grow1 _ _),At.new _ _ _,grow1 _ _⟩ ?_
 rintro W ⟨i1,c1,o1⟩
 refine wp_region_rely Grown [.val (.pointer (some ⟨b,o,none⟩)),.val (.pointer (some ⟨b,o,none⟩)),.val (.pointer (some ⟨b,o + 1,none⟩)),.val (.pointer (some ⟨b,o + 3,none⟩)),.val (.int .i64 a.ix),.val (.bool false),.val (.bool false),.val undef,.val undef,.val undef,.val undef,.val undef,.val undef,.val undef,.val undef,.val undef,.val undef,.val (.bool false),.val (.bool false),.val undef,.val undef,.val undef,.val undef,.val undef,.val undef,.val (.bool false),.val (.bool false),.val undef,.val undef,.val undef,.val undef,.val undef,.val undef,.val undef,.val undef,.val undef,.val undef,.val undef,.val undef,.val (.bool false),.val (.bool false)] (by kernel_rfl) Grown.refl Grown.trans (by kernel_rfl) (by kernel_rfl) (by kernel_rfl) ?_
 simp only [relyAll,Act.put,List.setIfInBounds_toArray,List.set_cons_zero,List.set_cons_succ]
 refine ⟨?_,?_,?_,?_,?_,?_,?_,?_,?_,?_,?_,?_,?_,?_,?_,?_,?_,?_,?_,?_,?_,?_,?_,?_,?_,?_,?_,?_,?_,?_,?_,?_,?_,?_,?_,?_,?_,?_,?_,?_,?_,?_⟩
 · intros;apply ol;go_simp;exact gl
 · intros;apply ol;go_simp;exact gl
 · intros;apply ol;go_simp;exact gl
 · intros;apply ol;go_simp;exact gl
 · intro w' hg _
   apply ol
   have z:=(i1.drew.grown hg).c_ix
   go_simp
   exact gl
 · intro w' hg _
   apply ol
   go_simp
   refine ⟨Grown.refl _,?_⟩
   first
    | rfl
    | (simp [Want.pred];done)
    | (simp [Want.pred];omega)
    | exact congrArg Value.bool (decide_eq_false (by omega))
 · intros;apply ol;go_simp;exact gl
 · intros;exact ur
 · intros;exact ur
 · intros;exact ur
 · intros;exact ur
 · intros;exact ur
 · intros;exact ur
 · intros;exact ur
 · intros;exact ur
 · intros;exact ur
 · intros;exact ur
 · intros;apply ol;go_simp;exact gl
 · intros;apply ol;go_simp;exact gl
 · intros;exact ur
 · intros;exact ur
 · intros;exact ur
 · intros;exact ur
 · intros;exact ur
 · intros;exact ur
 · intros;apply ol;go_simp;exact gl
 · intros;apply ol;go_simp;exact gl
 · intros;exact ur
 · intros;exact ur
 · intros;exact ur
 · intros;exact ur
 · intros;exact ur
 · intros;exact ur
 · intros;exact ur
 · intros;exact ur
 · intros;exact ur
 · intros;exact ur
 · intros;exact ur
 · intros;exact ur
 · intros;apply ol;go_simp;exact gl
 · intros;apply ol;go_simp;exact gl
 intro w5 hg _
 go_wp2
 go_ret
 exact ⟨rfl,grow (o1.trans ((Below.refl _ _).drew)) hg⟩
theorem ahas_high {w : World} {b o : Nat} {T : TypeId} {cs : Array Value} {a : CV} {t n k m : Nat} {g p r : Int} (hi : AcAt w b o T cs a) (A : Int) {Z : Int} (hz : a.sz = Z) (h0 : 0 <= a.ix) (h : Z <= a.ix) :
 Calls Tryz.prog 153 #[.pointer (some ⟨b,o,none⟩),.agg #[.int .i64 t,.int .i64 n,.int .i64 k,.int .i64 m,.int .i64 g,.int .i64 p,.int .i64 r],.int .i64 A] w fun e w'=>e = .returned (.bool false) /\ Below w.heap.size w w':=by
 go_enter Tryz.func153,Tryz.ntmps153
 go_wp2
 refine wp_over (fun W=>AcAt W b o T cs a /\ At W w.heap.size 0 24 #[.int .i64 t,.int .i64 n,.int .i64 k,.int .i64 m,.int .i64 g,.int .i64 p,.int .i64 r] [.int .i64 t,.int .i64 n,.int .i64 k,.int .i64 m,.int .i64 g,.int .i64 p,.int .i64 r] /\ Below w.heap.size w W) ⟨hi.grown (grow1 _ _),At.new _ _ _,grow1 _ _⟩ ?_
 rintro W ⟨i1,c1,o1⟩
 refine wp_region_rely Grown [.val (.pointer (some ⟨b,o,none⟩)),.val (.pointer (some ⟨b,o,none⟩)),.val (.pointer (some ⟨b,o + 1,none⟩)),.val (.pointer (some ⟨b,o + 3,none⟩)),.val (.int .i64 a.ix),.val (.bool true),.val (.bool true),.val (.pointer (some ⟨b,o,none⟩)),.val (.pointer (some ⟨b,o,none⟩)),.val (.pointer (some ⟨b,o + 1,none⟩)),.val (.pointer (some ⟨b,o + 3,none⟩)),.val (.int .i64 a.ix),.val (.pointer (some ⟨b,o,none⟩)),.val (.pointer (some ⟨b,o,none⟩)),.val (.pointer (some ⟨b,o + 9,none⟩)),.val (.int .i64 Z),.val (.bool false),.val (.bool false),.val (.bool false),.val undef,.val undef,.val undef,.val undef,.val undef,.val undef,.val (.bool false),.val (.bool false),.val undef,.val undef,.val undef,.val undef,.val undef,.val undef,.val undef,.val undef,.val undef,.val undef,.val undef,.val undef,.val (.bool false),.val (.bool false)] (by kernel_rfl) Grown.refl Grown.trans (by kernel_rfl) (by kernel_rfl) (by kernel_rfl) ?_
 simp only [relyAll,Act.put,List.setIfInBounds_toArray,List.set_cons_zero,List.set_cons_succ]
 refine ⟨?_,?_,?_,?_,?_,?_,?_,?_,?_,?_,?_,?_,?_,?_,?_,?_,?_,?_,?_,?_,?_,?_,?_,?_,?_,?_,?_,?_,?_,?_,?_,?_,?_,?_,?_,?_,?_,?_,?_,?_,?_,?_⟩
 · intros;apply ol;go_simp;exact gl
 · intros;apply ol;go_simp;exact gl
 · intros;apply ol;go_simp;exact gl
 · intros;apply ol;go_simp;exact gl
 · intro w' hg _
   apply ol
   have z:=(i1.drew.grown hg).c_ix
   go_simp
   exact gl
 · intro w' hg _
   apply ol
   go_simp
   refine ⟨Grown.refl _,?_⟩
   first
    | rfl
    | (simp [Want.pred];done)
    | (simp [Want.pred];omega)
    | exact congrArg Value.bool (decide_eq_true (by omega))
 · intros;apply ol;go_simp;exact gl
 · intros;apply ol;go_simp;exact gl
 · intros;apply ol;go_simp;exact gl
 · intros;apply ol;go_simp;exact gl
 · intros;apply ol;go_simp;exact gl
 · intro w' hg _
   apply ol
   have z:=(i1.drew.grown hg).c_ix
   go_simp
   exact gl
 · intros;apply ol;go_simp;exact gl
 · intros;apply ol;go_simp;exact gl
 · intros;apply ol;go_simp;exact gl
 · intro w' hg _
   apply ol
   have z:=(i1.drew.grown hg).c_sz
   rw [hz] at z
   go_simp
   exact gl
 · intro w' hg _
   apply ol
   go_simp
   refine ⟨Grown.refl _,?_⟩
   first
    | rfl
    | (simp [Want.pred];done)
    | (simp [Want.pred];omega)
    | exact congrArg Value.bool (decide_eq_false (by omega))
 · intros;apply ol;go_simp;exact gl
 · intros;apply ol;go_simp;exact gl
 · intros;exact ur
 · intros;exact ur
 · intros;exact ur
 · intros;exact ur
 · intros;exact ur
 · intros;exact ur
 · intros;apply ol;go_simp;exact gl
 · intros;apply ol;go_simp;exact gl
 · intros;exact ur
 · intros;exact ur
 · intros;exact ur
 · intros;exact ur
 · intros;exact ur
 · intros;exact ur
 · intros;exact ur
 · intros;exact ur
 · intros;exact ur
 · intros;exact ur
 · intros;exact ur
 · intros;exact ur
 · intros;apply ol;go_simp;exact gl
 · intros;apply ol;go_simp;exact gl
 intro w5 hg _
 go_wp2
 go_ret
 exact ⟨rfl,grow (o1.trans ((Below.refl _ _).drew)) hg⟩
theorem ahas_yes {w : World} {b o : Nat} {T : TypeId} {cs : Array Value} {a : CV} {t n k m : Nat} {g p r : Int} (hi : AcAt w b o T cs a) (A : Int) {Z : Int} (hz : a.sz = Z) (hG : Good t n k m g p r) (h0 : 0 <= a.ix) (h : a.ix < Z) (a0 : 0 <= A) (a1 : A <= 1048575) (z2 : Z <= 16) {i : Int} (h1 : chunkOf t n k m A = i) (h2 : chunkOf t n k m (A + Z) = i) :
 Calls Tryz.prog 153 #[.pointer (some ⟨b,o,none⟩),.agg #[.int .i64 t,.int .i64 n,.int .i64 k,.int .i64 m,.int .i64 g,.int .i64 p,.int .i64 r],.int .i64 A] w fun e w'=>e = .returned (.bool true) /\ Below w.heap.size w w':=by
 obtain ⟨κ,hκ⟩ : ∃ κ,classOf Z = κ:=⟨_,rfl⟩
 have κ0 : 0 <= κ:=by
  rw [<- hκ];unfold classOf
  rw [if_neg (by omega)]
  repeat' split
  all_goals omega
 have of1:=fun w=>lof_any hG A (by omega) w
 have of2:=fun w=>lof_any hG (A + Z) (by omega) w
 have lc:=fun w=>lclass_any Z w
 rw [h1] at of1
 rw [h2] at of2
 rw [hκ] at lc
 clear h1 h2 hκ
 go_enter Tryz.func153,Tryz.ntmps153
 go_wp2
 refine wp_over (fun W=>AcAt W b o T cs a /\ At W w.heap.size 0 24 #[.int .i64 t,.int .i64 n,.int .i64 k,.int .i64 m,.int .i64 g,.int .i64 p,.int .i64 r] [.int .i64 t,.int .i64 n,.int .i64 k,.int .i64 m,.int .i64 g,.int .i64 p,.int .i64 r] /\ Below w.heap.size w W) ⟨hi.grown (grow1 _ _),At.new _ _ _,grow1 _ _⟩ ?_
 rintro W ⟨i1,c1,o1⟩
 refine wp_region_rely Grown [.val (.pointer (some ⟨b,o,none⟩)),.val (.pointer (some ⟨b,o,none⟩)),.val (.pointer (some ⟨b,o + 1,none⟩)),.val (.pointer (some ⟨b,o + 3,none⟩)),.val (.int .i64 a.ix),.val (.bool true),.val (.bool true),.val (.pointer (some ⟨b,o,none⟩)),.val (.pointer (some ⟨b,o,none⟩)),.val (.pointer (some ⟨b,o + 1,none⟩)),.val (.pointer (some ⟨b,o + 3,none⟩)),.val (.int .i64 a.ix),.val (.pointer (some ⟨b,o,none⟩)),.val (.pointer (some ⟨b,o,none⟩)),.val (.pointer (some ⟨b,o + 9,none⟩)),.val (.int .i64 Z),.val (.bool true),.val (.bool true),.val (.bool true),.val (.pointer (some ⟨b,o,none⟩)),.val (.pointer (some ⟨b,o,none⟩)),.val (.pointer (some ⟨b,o + 9,none⟩)),.val (.int .i64 Z),.val (.int .i64 κ),.val (.bool true),.val (.bool true),.val (.bool true),.val (.agg #[.int .i64 t,.int .i64 n,.int .i64 k,.int .i64 m,.int .i64 g,.int .i64 p,.int .i64 r]),.val (.int .i64 A),.val (.pointer (some ⟨b,o,none⟩)),.val (.pointer (some ⟨b,o,none⟩)),.val (.pointer (some ⟨b,o + 9,none⟩)),.val (.int .i64 Z),.val (.int .i64 (A + Z)),.val (.int .i64 i),.val (.agg #[.int .i64 t,.int .i64 n,.int .i64 k,.int .i64 m,.int .i64 g,.int .i64 p,.int .i64 r]),.val (.int .i64 A),.val (.int .i64 i),.val (.bool true),.val (.bool true),.val (.bool true)] (by kernel_rfl) Grown.refl Grown.trans (by kernel_rfl) (by kernel_rfl) (by kernel_rfl) ?_
 simp only [relyAll,Act.put,List.setIfInBounds_toArray,List.set_cons_zero,List.set_cons_succ]
 refine ⟨?_,?_,?_,?_,?_,?_,?_,?_,?_,?_,?_,?_,?_,?_,?_,?_,?_,?_,?_,?_,?_,?_,?_,?_,?_,?_,?_,?_,?_,?_,?_,?_,?_,?_,?_,?_,?_,?_,?_,?_,?_,?_⟩
 · intros;apply ol;go_simp;exact gl
 · intros;apply ol;go_simp;exact gl
 · intros;apply ol;go_simp;exact gl
 · intros;apply ol;go_simp;exact gl
 · intro w' hg _
   apply ol
   have z:=(i1.drew.grown hg).c_ix
   go_simp
   exact gl
 · intro w' hg _
   apply ol
   go_simp
   refine ⟨Grown.refl _,?_⟩
   first
    | rfl
    | (simp [Want.pred];done)
    | (simp [Want.pred];omega)
    | exact congrArg Value.bool (decide_eq_true (by omega))
 · intros;apply ol;go_simp;exact gl
 · intros;apply ol;go_simp;exact gl
 · intros;apply ol;go_simp;exact gl
 · intros;apply ol;go_simp;exact gl
 · intros;apply ol;go_simp;exact gl
 · intro w' hg _
   apply ol
   have z:=(i1.drew.grown hg).c_ix
   go_simp
   exact gl
 · intros;apply ol;go_simp;exact gl
 · intros;apply ol;go_simp;exact gl
 · intros;apply ol;go_simp;exact gl
 · intro w' hg _
   apply ol
   have z:=(i1.drew.grown hg).c_sz
   rw [hz] at z
   go_simp
   exact gl
 · intro w' hg _
   apply ol
   go_simp
   refine ⟨Grown.refl _,?_⟩
   first
    | rfl
    | (simp [Want.pred];done)
    | (simp [Want.pred];omega)
    | exact congrArg Value.bool (decide_eq_true (by omega))
 · intros;apply ol;go_simp;exact gl
 · intros;apply ol;go_simp;exact gl
 · intros;apply ol;go_simp;exact gl
 · intros;apply ol;go_simp;exact gl
 · intros;apply ol;go_simp;exact gl
 · intro w' hg _
   apply ol
   have z:=(i1.drew.grown hg).c_sz
   rw [hz] at z
   go_simp
   exact gl
 · intro w' hg _
   apply ol
   go_simp
   refine (lc _).mono ?_
   rintro e w'' ⟨rfl,rfl⟩
   exact ⟨_,rfl,Grown.refl _,rfl⟩
 · intro w' hg _
   apply ol
   go_simp
   refine ⟨Grown.refl _,?_⟩
   first
    | rfl
    | (simp [Want.pred];done)
    | (simp [Want.pred];omega)
    | exact congrArg Value.bool (decide_eq_true (by omega))
 · intros;apply ol;go_simp;exact gl
 · intros;apply ol;go_simp;exact gl
 · intro w' hg _
   apply ol
   have y0:=(c1.drew.grown hg).at0 0 rfl
   have y1:=(c1.drew.grown hg).at0 1 rfl
   have y2:=(c1.drew.grown hg).at0 2 rfl
   have y3:=(c1.drew.grown hg).at0 3 rfl
   have y4:=(c1.drew.grown hg).at0 4 rfl
   have y5:=(c1.drew.grown hg).at0 5 rfl
   have y6:=(c1.drew.grown hg).at0 6 rfl
   go_simp
   exact gl
 · intros;apply ol;go_simp;exact gl
 · intros;apply ol;go_simp;exact gl
 · intros;apply ol;go_simp;exact gl
 · intros;apply ol;go_simp;exact gl
 · intro w' hg _
   apply ol
   have z:=(i1.drew.grown hg).c_sz
   rw [hz] at z
   go_simp
   exact gl
 · intro w' hg _
   apply ol
   go_simp
   exact ⟨Grown.refl _,congrArg (Value.int .i64) (by rw [IntKind.wrap_i64];omega)⟩
 · intro w' hg _
   apply ol
   go_simp
   refine (of2 _).mono ?_
   rintro e w'' ⟨rfl,b9⟩
   exact ⟨_,rfl,b9,rfl⟩
 · intro w' hg _
   apply ol
   have y0:=(c1.drew.grown hg).at0 0 rfl
   have y1:=(c1.drew.grown hg).at0 1 rfl
   have y2:=(c1.drew.grown hg).at0 2 rfl
   have y3:=(c1.drew.grown hg).at0 3 rfl
   have y4:=(c1.drew.grown hg).at0 4 rfl
   have y5:=(c1.drew.grown hg).at0 5 rfl
   have y6:=(c1.drew.grown hg).at0 6 rfl
   go_simp
   exact gl
 · intros;apply ol;go_simp;exact gl
 · intro w' hg _
   apply ol
   go_simp
   refine (of1 _).mono ?_
   rintro e w'' ⟨rfl,b9⟩
   exact ⟨_,rfl,b9,rfl⟩
 · intro w' hg _
   apply ol
   go_simp
   refine ⟨Grown.refl _,?_⟩
   first
    | rfl
    | (simp [Want.pred];done)
    | (simp [Want.pred];omega)
    | exact congrArg Value.bool (by simp)
 · intros;apply ol;go_simp;exact gl
 · intros;apply ol;go_simp;exact gl
 intro w5 hg _
 go_wp2
 go_ret
 exact ⟨rfl,grow (o1.trans ((Below.refl _ _).drew)) hg⟩
theorem aend {w : World} {L : Loc} {s : Mm} {b o : Nat} {T : TypeId} {cs : Array Value} {a : CV} (h : MemAt w L s) (hb : ¬ L.has b) (hi : AcAt w b o T cs a) (E val st : Int) :
 Calls Tryz.prog 144 #[.pointer (some ⟨b,o,none⟩),.int .i64 E,.int .i64 val,.int .i64 st] w fun e w'=>e = .returned (.tuple #[]) /\ Cact L b o T cs w w' (fun s' a'=>s' = s /\ a' = { a with nx:=7,E:=E,H:=0,V:=val,St:=st }):=by
 have k1:=hi.c_E
 have k2:=hi.c_H
 have k3:=hi.c_V
 have k4:=hi.c_St
 have k5:=hi.c_nx
 have kf:=hi.fz
 go_enter Tryz.func144,Tryz.ntmps144
 go_wp2
 go_end0
 exact ⟨rfl,s,_,_,((((h.setIn hb _ _).setIn hb _ _).setIn hb _ _).setIn hb _ _).setIn hb _ _,(((((Only.refl _ _).set _ _).set _ _).set _ _).set _ _).set _ _,((((hi.set_E E).set_H 0).set_V val).set_St st).set_nx 7,((((Same.refl.set (by omega) _).set (by omega) _).set (by omega) _).set (by omega) _).set (by omega) _,rfl,rfl⟩
end Go.Proofs.YtlolfmoolgenpaaGreat

namespace Go.Proofs.YtlolfmoolgenpaaGreat
open Go.RowKit
set_option maxRecDepth 20000
set_option maxHeartbeats 400000 in
theorem asee_no {w : World} {L : Loc} {s : Mm} {b o : Nat} {T : TypeId} {cs : Array Value} {t n k m : Nat} {g p r : Int} {a : CV} (h : MemAt w L s) (hb : ¬ L.has b) (hi : AcAt w b o T cs a) (who : Int) (hG : Good t n k m g p r) {x : Nat} {G : Int} (hx : x < n) (hn : (6 + t + x * 2) < s.n) {v st : Int} {A : Nat} {Gs V : Int} (hv : s.wd (6 + t + x * 2) = v) (hs : SlotIs v st A Gs V) (hl : (lifeB st && Gs == G) = false) {σ : Nat} (hσ : wrap64 (s.steps + 1) = σ)  :
 Calls Tryz.prog 147 #[.pointer (some ⟨b,o,none⟩),.agg #[.int .i64 t,.int .i64 n,.int .i64 k,.int .i64 m,.int .i64 g,.int .i64 p,.int .i64 r,.pointer (some ⟨L.p,0,none⟩),.int .i64 who],.agg #[.int .i64 x,.int .i64 G]] w fun e w'=>e = .returned (.tuple #[]) /\ Cact L b o T cs w w' (fun s' a'=>s' = ((s.by who).step (6 + t + x * 2) (s.wd (6 + t + x * 2))) /\ a' = { a with se:=v,at_:=σ,nx:=7,E:=3,H:=0,V:=0,St:=σ }):=by
 have HU : Hid (s.wd (6 + t + x * 2) = v):=hv
 have HS : Hid ((((s.by who).step (6 + t + x * 2) (s.wd (6 + t + x * 2)))).steps = σ):=hσ
 have sw:=hs.call
 have hs1:=hG.s1
 have ab : (A : Int) <= 1048575:=by have:=hs.ad;omega
 have dl:=fun w=>dlive_any st A Gs V x G w
 rw [hl] at dl
 clear hv hs hl hσ
 have hbv : ¬ L.has w.heap.size:=fun hh=>by have:=h.lt _ hh;omega
 have hbb : ¬ w.heap.size = b:=fun hh=>by have:=hi.lt;omega
 have hbv1 : ¬ L.has (w.heap.size + 1):=fun hh=>by have:=h.lt _ hh;omega
 have hbb1 : ¬ w.heap.size + 1 = b:=fun hh=>by have:=hi.lt;omega
 go_enter Tryz.func147,Tryz.ntmps147
 go_wp2
 refine wp_over (fun W=>MemAt W L s /\ AcAt W b o T cs a /\ BoxV W w.heap.size t n k m g p r L.p who /\ At W (w.heap.size + 1) 0 154 #[.int .i64 x,.int .i64 G] [.int .i64 x,.int .i64 G] /\ Only (L.and b) w W) ⟨(h.alloc _).alloc _,(hi.grown (grow1 _ _)).grown (grow1 _ _),BoxV.newB _,At.new2 _ _ _ _,((Only.refl _ _).alloc _).alloc _⟩ ?_
 rintro W ⟨m1,i1,v1,x1,o1⟩
 refine wp_region_phase (OnlyBut L b (o + 7)) Grown (phAc L b o T cs (cs.setIfInBounds (o + 7) (.int .u64 v)) s ((s.by who).step (6 + t + x * 2) (s.wd (6 + t + x * 2))) a { a with se:=v }) [7,10] [.val (.pointer (some ⟨b,o,none⟩)),.val (.agg #[.int .i64 t,.int .i64 n,.int .i64 k,.int .i64 m,.int .i64 g,.int .i64 p,.int .i64 r,.pointer (some ⟨L.p,0,none⟩),.int .i64 who]),.val (.pointer (some ⟨w.heap.size,0,none⟩)),.val (.agg #[.int .i64 t,.int .i64 n,.int .i64 k,.int .i64 m,.int .i64 g,.int .i64 p,.int .i64 r]),.val (.pointer (some ⟨w.heap.size + 1,0,none⟩)),.val (.int .i64 (x : Nat)),.val (.int .i64 (((6 + t + x * 2) : Nat) : Int)),.val (.int .u64 v),.val (.pointer (some ⟨b,o,none⟩)),.val (.pointer (some ⟨b,o + 7,none⟩)),.that (fun _ _=>True) (fun _ _ _ _ _=>trivial)]
  (by kernel_rfl) OnlyBut.refl OnlyBut.trans OnlyBut.ofGrown phAc_grown ⟨m1.drew,i1.drew⟩ (by kernel_rfl) (by kernel_rfl) (by kernel_rfl) (by kernel_rfl) (by kernel_rfl) ?_
 simp only [phaseAll,Act.put,List.setIfInBounds_toArray,List.set_cons_zero,List.set_cons_succ]
 refine ⟨?_,?_,?_,?_,?_,?_,?_,?_,?_,?_,?_,?_⟩
 · intros;apply ol;go_simp;exact gl
 · intro w' hR _
   apply ol
   obtain ⟨y0,y1,y2,y3,y4,y5,y6,y7,y8⟩:=(v1.grown ((Below.refl _ _).drew)).only hR.only (fun hh=>hh.elim hbv hbb)
   go_simp
   exact gl
 · intros;apply ol;go_simp;exact gl
 · intro w' hR _
   apply ol
   obtain ⟨y0,y1,y2,y3,y4,y5,y6,y7,y8⟩:=(v1.grown ((Below.refl _ _).drew)).only hR.only (fun hh=>hh.elim hbv hbb)
   go_simp
   exact gl
 · intros;apply ol;go_simp;exact gl
 · intro w' hR _
   apply ol
   have z:=(x1.drew.only hR.only (fun hh=>hh.elim hbv1 hbb1)).at0 0 rfl
   go_simp
   exact gl
 · intro w' hR _
   apply ol
   go_simp
   refine (lslot_any _ _ _ _ _ _ _ (x : Int) _ hG.arena (by omega) (by omega)).mono ?_
   rintro e w'' ⟨rfl,b9⟩
   exact ⟨_,rfl,b9,congrArg (Value.int .i64) (by omega)⟩
 · intro w' hR _ hP
   apply ol
   go_simp
   refine (eload_in (s:=s) hP.1 _ _ _ _ _ _ _ _ (6 + t + x * 2) hn).mono ?_
   rintro e w'' ⟨rfl,m2,o2⟩
   exact ⟨_,rfl,⟨OnlyBut.ofOnly o2 hb,m2,hP.2.only o2 hb⟩,by simp [Want.pred,HU.out]⟩
 · intros;apply ol;go_simp;exact gl
 · intros;apply ol;go_simp;exact gl
 · intro w' hR _ hP
   apply ol
   have z0:=hP.2.c_se
   have z1:=hP.2.fz
   go_simp
   exact ⟨⟨OnlyBut.set _ _,hP.1.setIn hb _ _,hP.2.set_se _⟩,trivial⟩
 intro vv w2 hR hP _
 obtain ⟨m2,i2⟩ : MemAt w2 L ((s.by who).step (6 + t + x * 2) (s.wd (6 + t + x * 2))) /\ AcAt w2 b o T (cs.setIfInBounds (o + 7) (.int .u64 v)) { a with se:=v }:=hP
 have o2 : Only (L.and b) w w2:=o1.drew.trans hR.only
 have x2:=x1.drew.only hR.only (fun hh=>hh.elim hbv1 hbb1)
 have v2:=(v1.grown ((Below.refl _ _).drew)).only hR.only (fun hh=>hh.elim hbv hbb)
 have s2 : Same o 24 cs (cs.setIfInBounds (o + 7) (.int .u64 v)):=Same.refl.set (by omega) _
 obtain ⟨g0,g1,g2,g3,g4,g5,g6,g7,g8⟩:=id v2
 clear hR o1 v1 m1 i1 x1
 go_wp2_with (first
  | (go_at_call 17;refine (now_any m2 _ _ _ _ _ _ _ _ σ HS.out).mono ?_;rintro e w3 ⟨rfl,b3⟩;have i3:=i2.grown b3;have k8:=i3.c_at_;have kf:=i3.fz;have i4:=i3.set_at_ σ;have m4:=(m2.below b3).setIn hb (o + 8) (.int .i64 σ);have x4:=(x2.grown b3).other hbb1 (o + 8) (.int .i64 σ);have v4:=(v2.grown b3).setIn hbb (o + 8) (.int .i64 σ);have o4:=(o2.trans (Only.ofGrown b3)).set (o + 8) (.int .i64 σ);have k7 : (w3.setCell ⟨b,o + 8,none⟩ (.int .i64 σ)).cell? ⟨b,o + 7,none⟩ = some (.int .u64 v):=i4.c_se)
  | (go_at_call 82;refine (sw _).mono ?_;rintro e w5 ⟨rfl,b5⟩;have i6:=(i4.grown b5).grown (grow1 _ (.cells #[.int .i64 st,.int .i64 A,.int .i64 Gs,.int .i64 V] 87));have x6:=(x4.grown b5).grown (grow1 _ (.cells #[.int .i64 st,.int .i64 A,.int .i64 Gs,.int .i64 V] 87));have v6:=(v4.grown b5).grown (grow1 _ (.cells #[.int .i64 st,.int .i64 A,.int .i64 Gs,.int .i64 V] 87));have m6:=(m4.below b5).alloc (.cells #[.int .i64 st,.int .i64 A,.int .i64 Gs,.int .i64 V] 87);have o6:=(o4.trans (Only.ofGrown b5)).alloc (.cells #[.int .i64 st,.int .i64 A,.int .i64 Gs,.int .i64 V] 87);have q6:=At.new w5 87 [.int .i64 st,.int .i64 A,.int .i64 Gs,.int .i64 V];have z0:=q6.at0 0 rfl;have z1:=q6.at0 1 rfl;have z2:=q6.at0 2 rfl;have z3:=q6.at0 3 rfl;have u0:=x6.at0 0 rfl;have u1:=x6.at0 1 rfl)
  | (go_at_call 127;refine (dl _).mono ?_;rintro e w7 ⟨rfl,b7⟩;have i7:=i6.grown b7;have m7:=m6.below b7;have v7:=v6.grown b7;have o7:=o6.trans (Only.ofGrown b7);have q7:=q6.grown b7;have l1:=q7.at0 1 rfl;obtain ⟨e0,e1,e2,e3,e4,e5,e6,e7,e8⟩:=id v7;have l8 : w7.cell? ⟨b,o + 8,none⟩ = some (.int .i64 σ):=i7.c_at_)
  | (go_at_call 144;refine (aend m7 hb i7 3 0 σ).mono ?_;rintro e w8 ⟨rfl,s8,cs8,a8,m8,o8,i8,q8,rfl,rfl⟩))
 refine bodyPost_ret (results_none rfl _ _ _) rfl ?_
 exact ⟨rfl,_,_,_,m8,o7.trans o8,i8,(s2.set (by omega) _).trans q8,rfl,rfl⟩
set_option maxHeartbeats 400000 in
theorem asee_yes {w : World} {L : Loc} {s : Mm} {b o : Nat} {T : TypeId} {cs : Array Value} {t n k m : Nat} {g p r : Int} {a : CV} (h : MemAt w L s) (hb : ¬ L.has b) (hi : AcAt w b o T cs a) (who : Int) (hG : Good t n k m g p r) {x : Nat} {G : Int} (hx : x < n) (hn : (6 + t + x * 2) < s.n) {v st : Int} {A : Nat} {Gs V : Int} (hv : s.wd (6 + t + x * 2) = v) (hs : SlotIs v st A Gs V) (hl : (lifeB st && Gs == G) = true) {σ : Nat} (hσ : wrap64 (s.steps + 1) = σ) {ci : Int} (hci : chunkOf t n k m A = ci) (hc0 : 0 <= ci) :
 Calls Tryz.prog 147 #[.pointer (some ⟨b,o,none⟩),.agg #[.int .i64 t,.int .i64 n,.int .i64 k,.int .i64 m,.int .i64 g,.int .i64 p,.int .i64 r,.pointer (some ⟨L.p,0,none⟩),.int .i64 who],.agg #[.int .i64 x,.int .i64 G]] w fun e w'=>e = .returned (.tuple #[]) /\ Cact L b o T cs w w' (fun s' a'=>s' = ((s.by who).step (6 + t + x * 2) (s.wd (6 + t + x * 2))) /\ a' = { a with se:=v,at_:=σ,nx:=1 }):=by
 have HU : Hid (s.wd (6 + t + x * 2) = v):=hv
 have HS : Hid ((((s.by who).step (6 + t + x * 2) (s.wd (6 + t + x * 2)))).steps = σ):=hσ
 have sw:=hs.call
 have hs1:=hG.s1
 have ab : (A : Int) <= 1048575:=by have:=hs.ad;omega
 have dl:=fun w=>dlive_any st A Gs V x G w
 rw [hl] at dl
 have of1:=fun w=>lof_any hG (A : Int) (by omega) w
 rw [hci] at of1
 clear hci
 clear hv hs hl hσ
 have hbv : ¬ L.has w.heap.size:=fun hh=>by have:=h.lt _ hh;omega
 have hbb : ¬ w.heap.size = b:=fun hh=>by have:=hi.lt;omega
 have hbv1 : ¬ L.has (w.heap.size + 1):=fun hh=>by have:=h.lt _ hh;omega
 have hbb1 : ¬ w.heap.size + 1 = b:=fun hh=>by have:=hi.lt;omega
 go_enter Tryz.func147,Tryz.ntmps147
 go_wp2
 refine wp_over (fun W=>MemAt W L s /\ AcAt W b o T cs a /\ BoxV W w.heap.size t n k m g p r L.p who /\ At W (w.heap.size + 1) 0 154 #[.int .i64 x,.int .i64 G] [.int .i64 x,.int .i64 G] /\ Only (L.and b) w W) ⟨(h.alloc _).alloc _,(hi.grown (grow1 _ _)).grown (grow1 _ _),BoxV.newB _,At.new2 _ _ _ _,((Only.refl _ _).alloc _).alloc _⟩ ?_
 rintro W ⟨m1,i1,v1,x1,o1⟩
 refine wp_region_phase (OnlyBut L b (o + 7)) Grown (phAc L b o T cs (cs.setIfInBounds (o + 7) (.int .u64 v)) s ((s.by who).step (6 + t + x * 2) (s.wd (6 + t + x * 2))) a { a with se:=v }) [7,10] [.val (.pointer (some ⟨b,o,none⟩)),.val (.agg #[.int .i64 t,.int .i64 n,.int .i64 k,.int .i64 m,.int .i64 g,.int .i64 p,.int .i64 r,.pointer (some ⟨L.p,0,none⟩),.int .i64 who]),.val (.pointer (some ⟨w.heap.size,0,none⟩)),.val (.agg #[.int .i64 t,.int .i64 n,.int .i64 k,.int .i64 m,.int .i64 g,.int .i64 p,.int .i64 r]),.val (.pointer (some ⟨w.heap.size + 1,0,none⟩)),.val (.int .i64 (x : Nat)),.val (.int .i64 (((6 + t + x * 2) : Nat) : Int)),.val (.int .u64 v),.val (.pointer (some ⟨b,o,none⟩)),.val (.pointer (some ⟨b,o + 7,none⟩)),.that (fun _ _=>True) (fun _ _ _ _ _=>trivial)]
  (by kernel_rfl) OnlyBut.refl OnlyBut.trans OnlyBut.ofGrown phAc_grown ⟨m1.drew,i1.drew⟩ (by kernel_rfl) (by kernel_rfl) (by kernel_rfl) (by kernel_rfl) (by kernel_rfl) ?_
 simp only [phaseAll,Act.put,List.setIfInBounds_toArray,List.set_cons_zero,List.set_cons_succ]
 refine ⟨?_,?_,?_,?_,?_,?_,?_,?_,?_,?_,?_,?_⟩
 · intros;apply ol;go_simp;exact gl
 · intro w' hR _
   apply ol
   obtain ⟨y0,y1,y2,y3,y4,y5,y6,y7,y8⟩:=(v1.grown ((Below.refl _ _).drew)).only hR.only (fun hh=>hh.elim hbv hbb)
   go_simp
   exact gl
 · intros;apply ol;go_simp;exact gl
 · intro w' hR _
   apply ol
   obtain ⟨y0,y1,y2,y3,y4,y5,y6,y7,y8⟩:=(v1.grown ((Below.refl _ _).drew)).only hR.only (fun hh=>hh.elim hbv hbb)
   go_simp
   exact gl
 · intros;apply ol;go_simp;exact gl
 · intro w' hR _
   apply ol
   have z:=(x1.drew.only hR.only (fun hh=>hh.elim hbv1 hbb1)).at0 0 rfl
   go_simp
   exact gl
 · intro w' hR _
   apply ol
   go_simp
   refine (lslot_any _ _ _ _ _ _ _ (x : Int) _ hG.arena (by omega) (by omega)).mono ?_
   rintro e w'' ⟨rfl,b9⟩
   exact ⟨_,rfl,b9,congrArg (Value.int .i64) (by omega)⟩
 · intro w' hR _ hP
   apply ol
   go_simp
   refine (eload_in (s:=s) hP.1 _ _ _ _ _ _ _ _ (6 + t + x * 2) hn).mono ?_
   rintro e w'' ⟨rfl,m2,o2⟩
   exact ⟨_,rfl,⟨OnlyBut.ofOnly o2 hb,m2,hP.2.only o2 hb⟩,by simp [Want.pred,HU.out]⟩
 · intros;apply ol;go_simp;exact gl
 · intros;apply ol;go_simp;exact gl
 · intro w' hR _ hP
   apply ol
   have z0:=hP.2.c_se
   have z1:=hP.2.fz
   go_simp
   exact ⟨⟨OnlyBut.set _ _,hP.1.setIn hb _ _,hP.2.set_se _⟩,trivial⟩
 intro vv w2 hR hP _
 obtain ⟨m2,i2⟩ : MemAt w2 L ((s.by who).step (6 + t + x * 2) (s.wd (6 + t + x * 2))) /\ AcAt w2 b o T (cs.setIfInBounds (o + 7) (.int .u64 v)) { a with se:=v }:=hP
 have o2 : Only (L.and b) w w2:=o1.drew.trans hR.only
 have x2:=x1.drew.only hR.only (fun hh=>hh.elim hbv1 hbb1)
 have v2:=(v1.grown ((Below.refl _ _).drew)).only hR.only (fun hh=>hh.elim hbv hbb)
 have s2 : Same o 24 cs (cs.setIfInBounds (o + 7) (.int .u64 v)):=Same.refl.set (by omega) _
 obtain ⟨g0,g1,g2,g3,g4,g5,g6,g7,g8⟩:=id v2
 clear hR o1 v1 m1 i1 x1
 go_wp2_with (first
  | (go_at_call 17;refine (now_any m2 _ _ _ _ _ _ _ _ σ HS.out).mono ?_;rintro e w3 ⟨rfl,b3⟩;have i3:=i2.grown b3;have k8:=i3.c_at_;have kf:=i3.fz;have i4:=i3.set_at_ σ;have m4:=(m2.below b3).setIn hb (o + 8) (.int .i64 σ);have x4:=(x2.grown b3).other hbb1 (o + 8) (.int .i64 σ);have v4:=(v2.grown b3).setIn hbb (o + 8) (.int .i64 σ);have o4:=(o2.trans (Only.ofGrown b3)).set (o + 8) (.int .i64 σ);have k7 : (w3.setCell ⟨b,o + 8,none⟩ (.int .i64 σ)).cell? ⟨b,o + 7,none⟩ = some (.int .u64 v):=i4.c_se)
  | (go_at_call 82;refine (sw _).mono ?_;rintro e w5 ⟨rfl,b5⟩;have i6:=(i4.grown b5).grown (grow1 _ (.cells #[.int .i64 st,.int .i64 A,.int .i64 Gs,.int .i64 V] 87));have x6:=(x4.grown b5).grown (grow1 _ (.cells #[.int .i64 st,.int .i64 A,.int .i64 Gs,.int .i64 V] 87));have v6:=(v4.grown b5).grown (grow1 _ (.cells #[.int .i64 st,.int .i64 A,.int .i64 Gs,.int .i64 V] 87));have m6:=(m4.below b5).alloc (.cells #[.int .i64 st,.int .i64 A,.int .i64 Gs,.int .i64 V] 87);have o6:=(o4.trans (Only.ofGrown b5)).alloc (.cells #[.int .i64 st,.int .i64 A,.int .i64 Gs,.int .i64 V] 87);have q6:=At.new w5 87 [.int .i64 st,.int .i64 A,.int .i64 Gs,.int .i64 V];have z0:=q6.at0 0 rfl;have z1:=q6.at0 1 rfl;have z2:=q6.at0 2 rfl;have z3:=q6.at0 3 rfl;have u0:=x6.at0 0 rfl;have u1:=x6.at0 1 rfl)
  | (go_at_call 127;refine (dl _).mono ?_;rintro e w7 ⟨rfl,b7⟩;have i7:=i6.grown b7;have m7:=m6.below b7;have v7:=v6.grown b7;have o7:=o6.trans (Only.ofGrown b7);have q7:=q6.grown b7;have l1:=q7.at0 1 rfl;obtain ⟨e0,e1,e2,e3,e4,e5,e6,e7,e8⟩:=id v7;have l8 : w7.cell? ⟨b,o + 8,none⟩ = some (.int .i64 σ):=i7.c_at_)
  | (go_at_call 126;refine (of1 _).mono ?_;rintro e w8 ⟨rfl,b8⟩;have i8:=i7.grown b8;have m8:=m7.below b8;have l0:=i8.c_nx;have lf:=i8.fz))
 go_end0
 exact ⟨rfl,_,_,_,m8.setIn hb _ _,(o7.trans (Only.ofGrown b8)).set _ _,i8.set_nx 1,(s2.set (by omega) _).set (by omega) _,rfl,rfl⟩
set_option maxHeartbeats 1000000 in
theorem aask_no {w : World} {L : Loc} {s : Mm} {b o : Nat} {T : TypeId} {cs : Array Value} {t n k m : Nat} {g p r : Int} {a : CV} (h : MemAt w L s) (hb : ¬ L.has b) (hi : AcAt w b o T cs a) (who : Int) {st : Int} {A : Nat} {Gs V : Int} (hs : SlotIs a.se st A Gs V) (hn : A < s.n) {u kd Z sl gn : Int} {ow : Bool} (hu : s.wd A = u) (hh : HeadIs u kd Z sl gn ow) (ho : (ow == a.own) = false) {σ : Nat} (hσ : wrap64 (s.steps + 1) = σ) :
 Calls Tryz.prog 148 #[.pointer (some ⟨b,o,none⟩),.agg #[.int .i64 t,.int .i64 n,.int .i64 k,.int .i64 m,.int .i64 g,.int .i64 p,.int .i64 r,.pointer (some ⟨L.p,0,none⟩),.int .i64 who]] w fun e w'=>e = .returned (.tuple #[]) /\ Cact L b o T cs w w' (fun s' a'=>s' = ((s.by who).step A (s.wd A)) /\ a' = { a with sz:=Z,nx:=7,E:=3,H:=0,V:=0,St:=σ }):=by
 have HU : Hid (s.wd A = u):=hu
 have HO : Hid ((ow == a.own) = false):=ho
 have sw:=hs.call
 have hw:=hh.call
 have HS : Hid ((((s.by who).step A (s.wd A))).steps = σ):=hσ
 clear hσ
 clear hu hs hh ho
 have hbv : ¬ L.has w.heap.size:=fun hh=>by have:=h.lt _ hh;omega
 have hbb : ¬ w.heap.size = b:=fun hh=>by have:=hi.lt;omega
 have i0:=hi.grown (grow1 _ (.cells #[.int .i64 t,.int .i64 n,.int .i64 k,.int .i64 m,.int .i64 g,.int .i64 p,.int .i64 r,.pointer (some ⟨L.p,0,none⟩),.int .i64 who] 27))
 have k3:=i0.c_se
 go_enter Tryz.func148,Tryz.ntmps148
 go_wp2_with (first
  | (go_at_call 82;refine (sw _).mono ?_;rintro e w3 ⟨rfl,b3⟩;have i3:=(i0.grown b3).grown (grow1 _ (.cells #[.int .i64 st,.int .i64 A,.int .i64 Gs,.int .i64 V] 87));have v3:=(BoxV.new.grown b3).grown (grow1 _ (.cells #[.int .i64 st,.int .i64 A,.int .i64 Gs,.int .i64 V] 87));have m3:=((h.alloc _).below b3).alloc (.cells #[.int .i64 st,.int .i64 A,.int .i64 Gs,.int .i64 V] 87);have o3 : Only (L.and b) w (w3.alloc (.cells #[.int .i64 st,.int .i64 A,.int .i64 Gs,.int .i64 V] 87)):=(((Only.refl _ _).alloc _).trans (Only.ofGrown b3)).alloc (.cells #[.int .i64 st,.int .i64 A,.int .i64 Gs,.int .i64 V] 87);have q3:=At.new w3 87 [.int .i64 st,.int .i64 A,.int .i64 Gs,.int .i64 V];obtain ⟨e0,e1,e2,e3,e4,e5,e6,e7,e8⟩:=id v3;have q0:=q3.at0 1 rfl)
  | (go_at_call 64;refine (eload_in m3 _ _ _ _ _ _ _ _ A hn).mono ?_;rintro e w5 ⟨rfl,m5,o5⟩;rw [HU.out])
  | (go_at_call 128;refine (hw _).mono ?_;rintro e w6 ⟨rfl,b6⟩;have i6:=((i3.only o5 hb).grown b6).grown (grow1 _ (.cells #[.int .i64 kd,.int .i64 Z,.int .i64 sl,.int .i64 gn,.bool ow] 98));have y0:=At.new w6 98 [.int .i64 kd,.int .i64 Z,.int .i64 sl,.int .i64 gn,.bool ow];have k1:=y0.at0 1 rfl;have k9:=i6.c_sz;have kf:=i6.fz))
 obtain ⟨S,hS⟩ : ∃ S,w3.heap.size = S:=⟨_,rfl⟩
 obtain ⟨Hh,hH⟩ : ∃ Hh,w6.heap.size = Hh:=⟨_,rfl⟩
 have lS : ¬ L.has S:=fun hh=>by have:=h.lt _ hh;have:=b3.size;simp only [Go.Deep.nblk_alloc] at this;omega
 have bS : S ≠ b:=by have:=hi.lt;have:=b3.size;simp only [Go.Deep.nblk_alloc] at this;omega
 have bH : Hh ≠ b:=by have:=hi.lt;have:=b3.size;have:=o5.size;have:=b6.size;simp only [Go.Deep.nblk_alloc] at *;omega
 rw [hS] at q3 ⊢
 rw [hH] at y0 ⊢
 refine wp_over (fun W=>MemAt W L ((s.by who).step A (s.wd A)) /\ AcAt W b o T (cs.setIfInBounds (o + 9) (.int .i64 Z)) { a with sz:=Z } /\ BoxV W w.heap.size t n k m g p r L.p who /\ At W S 0 87 _ [.int .i64 st,.int .i64 A,.int .i64 Gs,.int .i64 V] /\ At W Hh 0 98 _ [.int .i64 kd,.int .i64 Z,.int .i64 sl,.int .i64 gn,.bool ow] /\ Only (L.and b) w W) ⟨((m5.below b6).alloc _).setIn hb _ _,i6.set_sz Z,(((v3.only o5 hbv).grown b6).grown (grow1 _ _)).setIn hbb _ _,(((q3.only o5 lS).grown b6).grown (grow1 _ _)).other bS _ _,y0.other bH _ _,(((o3.trans (o5.andL (b:=b))).trans (Only.ofGrown b6)).alloc _).set _ _⟩ ?_
 clear b3 b6 m3 m5 o5 o3 q3 q0 y0 i3 i6 v3 i0 k3 k1 k9 kf hS hH sw hw
 rintro W ⟨m1,i1,v1,q1,y1,o1⟩
 refine wp_region_rely Grown [.val (.pointer (some ⟨Hh,4,none⟩)),.val (.bool ow),.val (.pointer (some ⟨b,o,none⟩)),.val (.pointer (some ⟨b,o,none⟩)),.val (.pointer (some ⟨b,o + 6,none⟩)),.val (.bool a.own),.val (.bool true),.val (.bool true)] (by kernel_rfl) Grown.refl Grown.trans (by kernel_rfl) (by kernel_rfl) (by kernel_rfl) ?_
 simp only [relyAll,Act.put,List.setIfInBounds_toArray,List.set_cons_zero,List.set_cons_succ]
 refine ⟨?_,?_,?_,?_,?_,?_,?_,?_,?_⟩
 · intros;apply ol;go_simp;exact gl
 · intro w' hg _
   apply ol
   have z:=(y1.drew.grown hg).at0 4 rfl
   go_simp
   exact gl
 · intros;apply ol;go_simp;exact gl
 · intros;apply ol;go_simp;exact gl
 · intros;apply ol;go_simp;exact gl
 · intro w' hg _
   apply ol
   have z:=(i1.drew.grown hg).c_own
   go_simp
   exact gl
 · intro w' hg _
   apply ol
   go_simp
   exact ⟨Grown.refl _,congrArg Value.bool (by rw [HO.out];rfl)⟩
 · intros;apply ol;go_simp;exact gl
 intro w7 hg _
 have m7:=m1.drew.below hg
 have i7:=i1.drew.grown hg
 have v7:=(v1.grown ((Below.refl _ _).drew)).grown hg
 have q7:=q1.drew.grown hg
 have o7 : Only (L.and b) w w7:=o1.drew.trans (Only.ofGrown hg)
 have s7 : Same o 24 cs (cs.setIfInBounds (o + 9) (.int .i64 Z)):=Same.refl.set (by omega) _
 clear hg m1 i1 v1 q1 y1 o1
 have kA:=q7.at0 1 rfl
 obtain ⟨y0,y1,y2,y3,y4,y5,y6,y7,y8⟩:=id v7
 go_wp2_with (first
  | (go_at_call 17;refine (now_any m7 _ _ _ _ _ _ _ _ σ HS.out).mono ?_;rintro e w8 ⟨rfl,b8⟩)
  | (go_at_call 144;refine (aend (m7.below b8) hb (i7.grown b8) 3 0 σ).mono ?_;rintro e w9 ⟨rfl,s9,cs9,a9,m9,o9,i9,q9,rfl,rfl⟩))
 go_end0
 exact ⟨rfl,_,_,_,m9,(o7.trans (Only.ofGrown b8)).trans o9,i9,s7.trans q9,rfl,rfl⟩
set_option maxHeartbeats 1000000 in
theorem aask_index {w : World} {L : Loc} {s : Mm} {b o : Nat} {T : TypeId} {cs : Array Value} {t n k m : Nat} {g p r : Int} {a : CV} (h : MemAt w L s) (hb : ¬ L.has b) (hi : AcAt w b o T cs a) (who : Int) {st : Int} {A : Nat} {Gs V : Int} (hs : SlotIs a.se st A Gs V) (hn : A < s.n) {u kd Z sl gn : Int} {ow : Bool} (hu : s.wd A = u) (hh : HeadIs u kd Z sl gn ow) (ho : (ow == a.own) = true) (hc : ∀ (w1 : World) (c1 : Array Value),AcAt w1 b o T c1 { a with sz:=Z } -> Calls Tryz.prog 153 #[.pointer (some ⟨b,o,none⟩),.agg #[.int .i64 t,.int .i64 n,.int .i64 k,.int .i64 m,.int .i64 g,.int .i64 p,.int .i64 r],.int .i64 A] w1 fun e w'=>e = .returned (.bool false) /\ Below w1.heap.size w1 w') :
 Calls Tryz.prog 148 #[.pointer (some ⟨b,o,none⟩),.agg #[.int .i64 t,.int .i64 n,.int .i64 k,.int .i64 m,.int .i64 g,.int .i64 p,.int .i64 r,.pointer (some ⟨L.p,0,none⟩),.int .i64 who]] w fun e w'=>e = .returned (.tuple #[]) /\ Cact L b o T cs w w' (fun s' a'=>s' = ((s.by who).step A (s.wd A)) /\ a' = { a with sz:=Z,nx:=7,E:=4,H:=0,V:=0,St:=a.at_ }):=by
 have HU : Hid (s.wd A = u):=hu
 have HO : Hid ((ow == a.own) = true):=ho
 have sw:=hs.call
 have hw:=hh.call
 clear hu hs hh ho
 have hbv : ¬ L.has w.heap.size:=fun hh=>by have:=h.lt _ hh;omega
 have hbb : ¬ w.heap.size = b:=fun hh=>by have:=hi.lt;omega
 have i0:=hi.grown (grow1 _ (.cells #[.int .i64 t,.int .i64 n,.int .i64 k,.int .i64 m,.int .i64 g,.int .i64 p,.int .i64 r,.pointer (some ⟨L.p,0,none⟩),.int .i64 who] 27))
 have k3:=i0.c_se
 go_enter Tryz.func148,Tryz.ntmps148
 go_wp2_with (first
  | (go_at_call 82;refine (sw _).mono ?_;rintro e w3 ⟨rfl,b3⟩;have i3:=(i0.grown b3).grown (grow1 _ (.cells #[.int .i64 st,.int .i64 A,.int .i64 Gs,.int .i64 V] 87));have v3:=(BoxV.new.grown b3).grown (grow1 _ (.cells #[.int .i64 st,.int .i64 A,.int .i64 Gs,.int .i64 V] 87));have m3:=((h.alloc _).below b3).alloc (.cells #[.int .i64 st,.int .i64 A,.int .i64 Gs,.int .i64 V] 87);have o3 : Only (L.and b) w (w3.alloc (.cells #[.int .i64 st,.int .i64 A,.int .i64 Gs,.int .i64 V] 87)):=(((Only.refl _ _).alloc _).trans (Only.ofGrown b3)).alloc (.cells #[.int .i64 st,.int .i64 A,.int .i64 Gs,.int .i64 V] 87);have q3:=At.new w3 87 [.int .i64 st,.int .i64 A,.int .i64 Gs,.int .i64 V];obtain ⟨e0,e1,e2,e3,e4,e5,e6,e7,e8⟩:=id v3;have q0:=q3.at0 1 rfl)
  | (go_at_call 64;refine (eload_in m3 _ _ _ _ _ _ _ _ A hn).mono ?_;rintro e w5 ⟨rfl,m5,o5⟩;rw [HU.out])
  | (go_at_call 128;refine (hw _).mono ?_;rintro e w6 ⟨rfl,b6⟩;have i6:=((i3.only o5 hb).grown b6).grown (grow1 _ (.cells #[.int .i64 kd,.int .i64 Z,.int .i64 sl,.int .i64 gn,.bool ow] 98));have y0:=At.new w6 98 [.int .i64 kd,.int .i64 Z,.int .i64 sl,.int .i64 gn,.bool ow];have k1:=y0.at0 1 rfl;have k9:=i6.c_sz;have kf:=i6.fz))
 obtain ⟨S,hS⟩ : ∃ S,w3.heap.size = S:=⟨_,rfl⟩
 obtain ⟨Hh,hH⟩ : ∃ Hh,w6.heap.size = Hh:=⟨_,rfl⟩
 have lS : ¬ L.has S:=fun hh=>by have:=h.lt _ hh;have:=b3.size;simp only [Go.Deep.nblk_alloc] at this;omega
 have bS : S ≠ b:=by have:=hi.lt;have:=b3.size;simp only [Go.Deep.nblk_alloc] at this;omega
 have bH : Hh ≠ b:=by have:=hi.lt;have:=b3.size;have:=o5.size;have:=b6.size;simp only [Go.Deep.nblk_alloc] at *;omega
 rw [hS] at q3 ⊢
 rw [hH] at y0 ⊢
 refine wp_over (fun W=>MemAt W L ((s.by who).step A (s.wd A)) /\ AcAt W b o T (cs.setIfInBounds (o + 9) (.int .i64 Z)) { a with sz:=Z } /\ BoxV W w.heap.size t n k m g p r L.p who /\ At W S 0 87 _ [.int .i64 st,.int .i64 A,.int .i64 Gs,.int .i64 V] /\ At W Hh 0 98 _ [.int .i64 kd,.int .i64 Z,.int .i64 sl,.int .i64 gn,.bool ow] /\ Only (L.and b) w W) ⟨((m5.below b6).alloc _).setIn hb _ _,i6.set_sz Z,(((v3.only o5 hbv).grown b6).grown (grow1 _ _)).setIn hbb _ _,(((q3.only o5 lS).grown b6).grown (grow1 _ _)).other bS _ _,y0.other bH _ _,(((o3.trans (o5.andL (b:=b))).trans (Only.ofGrown b6)).alloc _).set _ _⟩ ?_
 clear b3 b6 m3 m5 o5 o3 q3 q0 y0 i3 i6 v3 i0 k3 k1 k9 kf hS hH sw hw
 rintro W ⟨m1,i1,v1,q1,y1,o1⟩
 refine wp_region_rely Grown [.val (.pointer (some ⟨Hh,4,none⟩)),.val (.bool ow),.val (.pointer (some ⟨b,o,none⟩)),.val (.pointer (some ⟨b,o,none⟩)),.val (.pointer (some ⟨b,o + 6,none⟩)),.val (.bool a.own),.val (.bool false),.val (.bool false)] (by kernel_rfl) Grown.refl Grown.trans (by kernel_rfl) (by kernel_rfl) (by kernel_rfl) ?_
 simp only [relyAll,Act.put,List.setIfInBounds_toArray,List.set_cons_zero,List.set_cons_succ]
 refine ⟨?_,?_,?_,?_,?_,?_,?_,?_,?_⟩
 · intros;apply ol;go_simp;exact gl
 · intro w' hg _
   apply ol
   have z:=(y1.drew.grown hg).at0 4 rfl
   go_simp
   exact gl
 · intros;apply ol;go_simp;exact gl
 · intros;apply ol;go_simp;exact gl
 · intros;apply ol;go_simp;exact gl
 · intro w' hg _
   apply ol
   have z:=(i1.drew.grown hg).c_own
   go_simp
   exact gl
 · intro w' hg _
   apply ol
   go_simp
   exact ⟨Grown.refl _,congrArg Value.bool (by rw [HO.out];rfl)⟩
 · intros;apply ol;go_simp;exact gl
 intro w7 hg _
 have m7:=m1.drew.below hg
 have i7:=i1.drew.grown hg
 have v7:=(v1.grown ((Below.refl _ _).drew)).grown hg
 have q7:=q1.drew.grown hg
 have o7 : Only (L.and b) w w7:=o1.drew.trans (Only.ofGrown hg)
 have s7 : Same o 24 cs (cs.setIfInBounds (o + 9) (.int .i64 Z)):=Same.refl.set (by omega) _
 clear hg m1 i1 v1 q1 y1 o1
 have kA:=q7.at0 1 rfl
 obtain ⟨y0,y1,y2,y3,y4,y5,y6,y7,y8⟩:=id v7
 go_wp2_with (first
  | (go_at_call 153;refine (hc _ _ i7).mono ?_;rintro e w8 ⟨rfl,b8⟩;have i8:=i7.grown b8;have m8:=m7.below b8;have k8 : w8.cell? ⟨b,o + 8,none⟩ = some (.int .i64 a.at_):=i8.c_at_;have k0:=i8.c_nx;have kf:=i8.fz)
  | (go_at_call 144;refine (aend m8 hb i8 4 0 a.at_).mono ?_;rintro e w9 ⟨rfl,s9,cs9,a9,m9,o9,i9,q9,rfl,rfl⟩))
 go_end0
 exact ⟨rfl,_,_,_,m9,(o7.trans (Only.ofGrown b8)).trans o9,i9,s7.trans q9,rfl,rfl⟩
set_option maxHeartbeats 1000000 in
theorem aask_go {w : World} {L : Loc} {s : Mm} {b o : Nat} {T : TypeId} {cs : Array Value} {t n k m : Nat} {g p r : Int} {a : CV} (h : MemAt w L s) (hb : ¬ L.has b) (hi : AcAt w b o T cs a) (who : Int) {st : Int} {A : Nat} {Gs V : Int} (hs : SlotIs a.se st A Gs V) (hn : A < s.n) {u kd Z sl gn : Int} {ow : Bool} (hu : s.wd A = u) (hh : HeadIs u kd Z sl gn ow) (ho : (ow == a.own) = true) (hc : ∀ (w1 : World) (c1 : Array Value),AcAt w1 b o T c1 { a with sz:=Z } -> Calls Tryz.prog 153 #[.pointer (some ⟨b,o,none⟩),.agg #[.int .i64 t,.int .i64 n,.int .i64 k,.int .i64 m,.int .i64 g,.int .i64 p,.int .i64 r],.int .i64 A] w1 fun e w'=>e = .returned (.bool true) /\ Below w1.heap.size w1 w') :
 Calls Tryz.prog 148 #[.pointer (some ⟨b,o,none⟩),.agg #[.int .i64 t,.int .i64 n,.int .i64 k,.int .i64 m,.int .i64 g,.int .i64 p,.int .i64 r,.pointer (some ⟨L.p,0,none⟩),.int .i64 who]] w fun e w'=>e = .returned (.tuple #[]) /\ Cact L b o T cs w w' (fun s' a'=>s' = ((s.by who).step A (s.wd A)) /\ a' = { a with sz:=Z,nx:=2 }):=by
 have HU : Hid (s.wd A = u):=hu
 have HO : Hid ((ow == a.own) = true):=ho
 have sw:=hs.call
 have hw:=hh.call
 clear hu hs hh ho
 have hbv : ¬ L.has w.heap.size:=fun hh=>by have:=h.lt _ hh;omega
 have hbb : ¬ w.heap.size = b:=fun hh=>by have:=hi.lt;omega
 have i0:=hi.grown (grow1 _ (.cells #[.int .i64 t,.int .i64 n,.int .i64 k,.int .i64 m,.int .i64 g,.int .i64 p,.int .i64 r,.pointer (some ⟨L.p,0,none⟩),.int .i64 who] 27))
 have k3:=i0.c_se
 go_enter Tryz.func148,Tryz.ntmps148
 go_wp2_with (first
  | (go_at_call 82;refine (sw _).mono ?_;rintro e w3 ⟨rfl,b3⟩;have i3:=(i0.grown b3).grown (grow1 _ (.cells #[.int .i64 st,.int .i64 A,.int .i64 Gs,.int .i64 V] 87));have v3:=(BoxV.new.grown b3).grown (grow1 _ (.cells #[.int .i64 st,.int .i64 A,.int .i64 Gs,.int .i64 V] 87));have m3:=((h.alloc _).below b3).alloc (.cells #[.int .i64 st,.int .i64 A,.int .i64 Gs,.int .i64 V] 87);have o3 : Only (L.and b) w (w3.alloc (.cells #[.int .i64 st,.int .i64 A,.int .i64 Gs,.int .i64 V] 87)):=(((Only.refl _ _).alloc _).trans (Only.ofGrown b3)).alloc (.cells #[.int .i64 st,.int .i64 A,.int .i64 Gs,.int .i64 V] 87);have q3:=At.new w3 87 [.int .i64 st,.int .i64 A,.int .i64 Gs,.int .i64 V];obtain ⟨e0,e1,e2,e3,e4,e5,e6,e7,e8⟩:=id v3;have q0:=q3.at0 1 rfl)
  | (go_at_call 64;refine (eload_in m3 _ _ _ _ _ _ _ _ A hn).mono ?_;rintro e w5 ⟨rfl,m5,o5⟩;rw [HU.out])
  | (go_at_call 128;refine (hw _).mono ?_;rintro e w6 ⟨rfl,b6⟩;have i6:=((i3.only o5 hb).grown b6).grown (grow1 _ (.cells #[.int .i64 kd,.int .i64 Z,.int .i64 sl,.int .i64 gn,.bool ow] 98));have y0:=At.new w6 98 [.int .i64 kd,.int .i64 Z,.int .i64 sl,.int .i64 gn,.bool ow];have k1:=y0.at0 1 rfl;have k9:=i6.c_sz;have kf:=i6.fz))
 obtain ⟨S,hS⟩ : ∃ S,w3.heap.size = S:=⟨_,rfl⟩
 obtain ⟨Hh,hH⟩ : ∃ Hh,w6.heap.size = Hh:=⟨_,rfl⟩
 have lS : ¬ L.has S:=fun hh=>by have:=h.lt _ hh;have:=b3.size;simp only [Go.Deep.nblk_alloc] at this;omega
 have bS : S ≠ b:=by have:=hi.lt;have:=b3.size;simp only [Go.Deep.nblk_alloc] at this;omega
 have bH : Hh ≠ b:=by have:=hi.lt;have:=b3.size;have:=o5.size;have:=b6.size;simp only [Go.Deep.nblk_alloc] at *;omega
 rw [hS] at q3 ⊢
 rw [hH] at y0 ⊢
 refine wp_over (fun W=>MemAt W L ((s.by who).step A (s.wd A)) /\ AcAt W b o T (cs.setIfInBounds (o + 9) (.int .i64 Z)) { a with sz:=Z } /\ BoxV W w.heap.size t n k m g p r L.p who /\ At W S 0 87 _ [.int .i64 st,.int .i64 A,.int .i64 Gs,.int .i64 V] /\ At W Hh 0 98 _ [.int .i64 kd,.int .i64 Z,.int .i64 sl,.int .i64 gn,.bool ow] /\ Only (L.and b) w W) ⟨((m5.below b6).alloc _).setIn hb _ _,i6.set_sz Z,(((v3.only o5 hbv).grown b6).grown (grow1 _ _)).setIn hbb _ _,(((q3.only o5 lS).grown b6).grown (grow1 _ _)).other bS _ _,y0.other bH _ _,(((o3.trans (o5.andL (b:=b))).trans (Only.ofGrown b6)).alloc _).set _ _⟩ ?_
 clear b3 b6 m3 m5 o5 o3 q3 q0 y0 i3 i6 v3 i0 k3 k1 k9 kf hS hH sw hw
 rintro W ⟨m1,i1,v1,q1,y1,o1⟩
 refine wp_region_rely Grown [.val (.pointer (some ⟨Hh,4,none⟩)),.val (.bool ow),.val (.pointer (some ⟨b,o,none⟩)),.val (.pointer (some ⟨b,o,none⟩)),.val (.pointer (some ⟨b,o + 6,none⟩)),.val (.bool a.own),.val (.bool false),.val (.bool false)] (by kernel_rfl) Grown.refl Grown.trans (by kernel_rfl) (by kernel_rfl) (by kernel_rfl) ?_
 simp only [relyAll,Act.put,List.setIfInBounds_toArray,List.set_cons_zero,List.set_cons_succ]
 refine ⟨?_,?_,?_,?_,?_,?_,?_,?_,?_⟩
 · intros;apply ol;go_simp;exact gl
 · intro w' hg _
   apply ol
   have z:=(y1.drew.grown hg).at0 4 rfl
   go_simp
   exact gl
 · intros;apply ol;go_simp;exact gl
 · intros;apply ol;go_simp;exact gl
 · intros;apply ol;go_simp;exact gl
 · intro w' hg _
   apply ol
   have z:=(i1.drew.grown hg).c_own
   go_simp
   exact gl
 · intro w' hg _
   apply ol
   go_simp
   exact ⟨Grown.refl _,congrArg Value.bool (by rw [HO.out];rfl)⟩
 · intros;apply ol;go_simp;exact gl
 intro w7 hg _
 have m7:=m1.drew.below hg
 have i7:=i1.drew.grown hg
 have v7:=(v1.grown ((Below.refl _ _).drew)).grown hg
 have q7:=q1.drew.grown hg
 have o7 : Only (L.and b) w w7:=o1.drew.trans (Only.ofGrown hg)
 have s7 : Same o 24 cs (cs.setIfInBounds (o + 9) (.int .i64 Z)):=Same.refl.set (by omega) _
 clear hg m1 i1 v1 q1 y1 o1
 have kA:=q7.at0 1 rfl
 obtain ⟨y0,y1,y2,y3,y4,y5,y6,y7,y8⟩:=id v7
 go_wp2_with (go_at_call 153;refine (hc _ _ i7).mono ?_;rintro e w8 ⟨rfl,b8⟩;have i8:=i7.grown b8;have m8:=m7.below b8;have k8 : w8.cell? ⟨b,o + 8,none⟩ = some (.int .i64 a.at_):=i8.c_at_;have k0:=i8.c_nx;have kf:=i8.fz)
 go_end0
 exact ⟨rfl,_,_,_,m8.setIn hb _ _,(o7.trans (Only.ofGrown b8)).set _ _,i8.set_nx 2,s7.set (by omega) _,rfl,rfl⟩
end Go.Proofs.YtlolfmoolgenpaaGreat

namespace Go.Proofs.YtlolfmoolgenpaaGreat
open Go.RowKit
set_option maxRecDepth 20000
set_option maxHeartbeats 1000000 in
theorem aload_check {w : World} {L : Loc} {s : Mm} {b o : Nat} {T : TypeId} {cs : Array Value} {t n k m : Nat} {g p r : Int} {a : CV} (h : MemAt w L s) (hb : ¬ L.has b) (hi : AcAt w b o T cs a) (who : Int) {x : Nat} {G : Int} {st : Int} {A : Nat} {Gs V : Int} (hs : SlotIs a.se st A Gs V) {j : Nat} (hix : a.ix = j) (j1 : j <= 16) (hn : (A + 1 + j) < s.n) {u z vr : Int} {fz : Bool} (hu : s.wd (A + 1 + j) = u) (hc : CellIs u z fz vr) {σ : Nat} (hσ : wrap64 (s.steps + 1) = σ) (hr : (decide (a.kd = 1) || a.oth z) = true)  :
 Calls Tryz.prog 149 #[.pointer (some ⟨b,o,none⟩),.agg #[.int .i64 t,.int .i64 n,.int .i64 k,.int .i64 m,.int .i64 g,.int .i64 p,.int .i64 r,.pointer (some ⟨L.p,0,none⟩),.int .i64 who],.agg #[.int .i64 x,.int .i64 G]] w fun e w'=>e = .returned (.tuple #[]) /\ Cact L b o T cs w w' (fun s' a'=>s' = ((s.by who).step (A + 1 + j) (s.wd (A + 1 + j))) /\ a' = { a with ce:=u,ld:=σ,nx:=3 }):=by
 have HU : Hid (s.wd (A + 1 + j) = u):=hu
 have HS : Hid ((((s.by who).step (A + 1 + j) (s.wd (A + 1 + j)))).steps = σ):=hσ
 have HR : Hid ((decide (a.kd = 1) || a.oth z) = true):=hr
 have sw:=hs.call
 have cc:=hc.call
 have ab : (A : Int) <= 1048575:=by have:=hs.ad;omega
 have HX : Hid (a.ix = j):=hix
 clear hu hs hc hσ hr hix
 have hbv : ¬ L.has w.heap.size:=fun hh=>by have:=h.lt _ hh;omega
 have hbb : ¬ w.heap.size = b:=fun hh=>by have:=hi.lt;omega
 have hbv1 : ¬ L.has (w.heap.size + 1):=fun hh=>by have:=h.lt _ hh;omega
 have hbb1 : ¬ w.heap.size + 1 = b:=fun hh=>by have:=hi.lt;omega
 have i0:=(hi.grown (grow1 _ (.cells #[.int .i64 t,.int .i64 n,.int .i64 k,.int .i64 m,.int .i64 g,.int .i64 p,.int .i64 r,.pointer (some ⟨L.p,0,none⟩),.int .i64 who] 27))).grown (grow1 _ (.cells #[.int .i64 x,.int .i64 G] 154))
 have k3:=i0.c_se
 go_enter Tryz.func149,Tryz.ntmps149
 go_wp2_with (go_at_call 82;refine (sw _).mono ?_;rintro e w3 ⟨rfl,b3⟩)
 have q0:=At.new w3 87 [.int .i64 st,.int .i64 A,.int .i64 Gs,.int .i64 V]
 obtain ⟨S,hS⟩ : ∃ S,w3.heap.size = S:=⟨_,rfl⟩
 have lS : ¬ L.has S:=fun hh=>by have:=h.lt _ hh;have:=b3.size;simp only [Go.Deep.nblk_alloc] at this;omega
 have bS : S ≠ b:=by have:=hi.lt;have:=b3.size;simp only [Go.Deep.nblk_alloc] at this;omega
 rw [hS] at q0 ⊢
 refine wp_over (fun W=>MemAt W L s /\ AcAt W b o T cs a /\ BoxV W w.heap.size t n k m g p r L.p who /\ At W S 0 87 _ [.int .i64 st,.int .i64 A,.int .i64 Gs,.int .i64 V] /\ Only (L.and b) w W) ⟨(((h.alloc _).alloc _).below b3).alloc _,(i0.grown b3).grown (grow1 _ _),((BoxV.newB _).grown b3).grown (grow1 _ _),q0,((((Only.refl _ _).alloc _).alloc _).trans (Only.ofGrown b3)).alloc _⟩ ?_
 clear b3 i0 k3 sw q0 hS
 rintro W ⟨m1,i1,v1,q1,o1⟩
 refine wp_region_phase (OnlyBut L b (o + 10)) Grown (phAc L b o T cs (cs.setIfInBounds (o + 10) (.int .u64 u)) s ((s.by who).step (A + 1 + j) (s.wd (A + 1 + j))) a { a with ce:=u }) [5,8] [.val (.pointer (some ⟨b,o,none⟩)),.val (.agg #[.int .i64 t,.int .i64 n,.int .i64 k,.int .i64 m,.int .i64 g,.int .i64 p,.int .i64 r,.pointer (some ⟨L.p,0,none⟩),.int .i64 who]),.val (.pointer (some ⟨b,o,none⟩)),.val (.agg #[.int .i64 st,.int .i64 A,.int .i64 Gs,.int .i64 V]),.val (.int .i64 (((A + 1 + j) : Nat) : Int)),.val (.int .u64 u),.val (.pointer (some ⟨b,o,none⟩)),.val (.pointer (some ⟨b,o + 10,none⟩)),.that (fun _ _=>True) (fun _ _ _ _ _=>trivial)]
  (by kernel_rfl) OnlyBut.refl OnlyBut.trans OnlyBut.ofGrown phAc_grown ⟨m1.drew,i1.drew⟩ (by kernel_rfl) (by kernel_rfl) (by kernel_rfl) (by kernel_rfl) (by kernel_rfl) ?_
 simp only [phaseAll,Act.put,List.setIfInBounds_toArray,List.set_cons_zero,List.set_cons_succ]
 refine ⟨?_,?_,?_,?_,?_,?_,?_,?_,?_,?_⟩
 · intros;apply ol;go_simp;exact gl
 · intro w' hR _
   apply ol
   obtain ⟨y0,y1,y2,y3,y4,y5,y6,y7,y8⟩:=(v1.grown ((Below.refl _ _).drew)).only hR.only (fun hh=>hh.elim hbv hbb)
   go_simp
   exact gl
 · intros;apply ol;go_simp;exact gl
 · intro w' hR _
   apply ol
   have z0:=(q1.drew.only hR.only (fun hh=>hh.elim lS bS)).at0 0 rfl
   have z1:=(q1.drew.only hR.only (fun hh=>hh.elim lS bS)).at0 1 rfl
   have z2:=(q1.drew.only hR.only (fun hh=>hh.elim lS bS)).at0 2 rfl
   have z3:=(q1.drew.only hR.only (fun hh=>hh.elim lS bS)).at0 3 rfl
   go_simp
   exact gl
 · intro w' hR _
   apply ol
   go_simp
   refine (aplace_any st A Gs V j (hR.keep (j:=o + 3) (by omega) (by have z:=i1.drew.c_ix;rwa [HX.out] at z)) (by omega) (by omega) (by omega) (by omega)).mono ?_
   rintro e w'' ⟨rfl,b9⟩
   exact ⟨_,rfl,b9,congrArg (Value.int .i64) (by omega)⟩
 · intro w' hR _ hP
   apply ol
   go_simp
   refine (eload_in (s:=s) hP.1 _ _ _ _ _ _ _ _ (A + 1 + j) hn).mono ?_
   rintro e w'' ⟨rfl,m2,o2⟩
   exact ⟨_,rfl,⟨OnlyBut.ofOnly o2 hb,m2,hP.2.only o2 hb⟩,by simp [Want.pred,HU.out]⟩
 · intros;apply ol;go_simp;exact gl
 · intros;apply ol;go_simp;exact gl
 · intro w' hR _ hP
   apply ol
   have z0:=hP.2.c_ce
   have z1:=hP.2.fz
   go_simp
   exact ⟨⟨OnlyBut.set _ _,hP.1.setIn hb _ _,hP.2.set_ce _⟩,trivial⟩
 intro vv w2 hR hP _
 obtain ⟨m2,i2⟩ : MemAt w2 L ((s.by who).step (A + 1 + j) (s.wd (A + 1 + j))) /\ AcAt w2 b o T (cs.setIfInBounds (o + 10) (.int .u64 u)) { a with ce:=u }:=hP
 have o2 : Only (L.and b) w w2:=o1.drew.trans hR.only
 have v2:=(v1.grown ((Below.refl _ _).drew)).only hR.only (fun hh=>hh.elim hbv hbb)
 have q2:=q1.drew.only hR.only (fun hh=>hh.elim lS bS)
 have s2 : Same o 24 cs (cs.setIfInBounds (o + 10) (.int .u64 u)):=Same.refl.set (by omega) _
 obtain ⟨g0,g1,g2,g3,g4,g5,g6,g7,g8⟩:=id v2
 clear hR o1 v1 m1 i1 q1
 go_wp2_with (first
  | (go_at_call 17;refine (now_any m2 _ _ _ _ _ _ _ _ σ HS.out).mono ?_;rintro e w3 ⟨rfl,b3⟩;have i3:=i2.grown b3;have k8:=i3.c_ld;have kf:=i3.fz;have i4:=i3.set_ld σ;have m4:=(m2.below b3).setIn hb (o + 11) (.int .i64 σ);have q4:=(q2.grown b3).other bS (o + 11) (.int .i64 σ);have o4:=(o2.trans (Only.ofGrown b3)).set (o + 11) (.int .i64 σ);have k7 : (w3.setCell ⟨b,o + 11,none⟩ (.int .i64 σ)).cell? ⟨b,o + 10,none⟩ = some (.int .u64 u):=i4.c_ce)
  | (go_at_call 138;refine (cc _).mono ?_;rintro e w5 ⟨rfl,b5⟩;have i6:=(i4.grown b5).grown (grow1 _ (.cells #[.int .i64 z,.bool fz,.int .i64 vr] 185));have m6:=(m4.below b5).alloc (.cells #[.int .i64 z,.bool fz,.int .i64 vr] 185);have o6:=(o4.trans (Only.ofGrown b5)).alloc (.cells #[.int .i64 z,.bool fz,.int .i64 vr] 185);have q6:=(q4.grown b5).grown (grow1 _ (.cells #[.int .i64 z,.bool fz,.int .i64 vr] 185));have c6:=At.new w5 185 [.int .i64 z,.bool fz,.int .i64 vr];have z0:=c6.at0 0 rfl;have z1:=c6.at0 1 rfl;have z2:=c6.at0 2 rfl)
  | (go_at_call 155;refine (areads_any i6 z fz vr).mono ?_;rintro e w7 ⟨rfl,b7⟩;rw [show (decide (({ a with ce:=u,ld:=σ } : CV).kd = 1) || ({ a with ce:=u,ld:=σ } : CV).oth z) = true from HR.out];have i7:=i6.grown b7;have m7:=m6.below b7;have o7:=o6.trans (Only.ofGrown b7);have q7:=q6.grown b7;have c7:=c6.grown b7;have t0:=q7.at0 0 rfl;have t3:=q7.at0 3 rfl;have t1:=c7.at0 1 rfl;have t2:=c7.at0 2 rfl;have k0:=i7.c_nx;have lf:=i7.fz))
 go_end0
 exact ⟨rfl,_,_,_,m7.setIn hb _ _,o7.set _ _,i7.set_nx 3,(s2.set (by omega) _).set (by omega) _,rfl,rfl⟩
set_option maxHeartbeats 1000000 in
theorem aload_stop {w : World} {L : Loc} {s : Mm} {b o : Nat} {T : TypeId} {cs : Array Value} {t n k m : Nat} {g p r : Int} {a : CV} (h : MemAt w L s) (hb : ¬ L.has b) (hi : AcAt w b o T cs a) (who : Int) {x : Nat} {G : Int} {st : Int} {A : Nat} {Gs V : Int} (hs : SlotIs a.se st A Gs V) {j : Nat} (hix : a.ix = j) (j1 : j <= 16) (hn : (A + 1 + j) < s.n) {u z vr : Int} {fz : Bool} (hu : s.wd (A + 1 + j) = u) (hc : CellIs u z fz vr) {σ : Nat} (hσ : wrap64 (s.steps + 1) = σ) (hr : (decide (a.kd = 1) || a.oth z) = false) (h2 : st = 2) (hf : fz = true) (hv : vr = V) :
 Calls Tryz.prog 149 #[.pointer (some ⟨b,o,none⟩),.agg #[.int .i64 t,.int .i64 n,.int .i64 k,.int .i64 m,.int .i64 g,.int .i64 p,.int .i64 r,.pointer (some ⟨L.p,0,none⟩),.int .i64 who],.agg #[.int .i64 x,.int .i64 G]] w fun e w'=>e = .returned (.tuple #[]) /\ Cact L b o T cs w w' (fun s' a'=>s' = ((s.by who).step (A + 1 + j) (s.wd (A + 1 + j))) /\ a' = { a with ce:=u,ld:=σ,nx:=5 }):=by
 have HU : Hid (s.wd (A + 1 + j) = u):=hu
 have HS : Hid ((((s.by who).step (A + 1 + j) (s.wd (A + 1 + j)))).steps = σ):=hσ
 have HR : Hid ((decide (a.kd = 1) || a.oth z) = false):=hr
 have sw:=hs.call
 have cc:=hc.call
 have ab : (A : Int) <= 1048575:=by have:=hs.ad;omega
 have HX : Hid (a.ix = j):=hix
 clear hu hs hc hσ hr hix
 subst hf
 have hv:=hv.symm
 subst hv
 subst h2
 have hbv : ¬ L.has w.heap.size:=fun hh=>by have:=h.lt _ hh;omega
 have hbb : ¬ w.heap.size = b:=fun hh=>by have:=hi.lt;omega
 have hbv1 : ¬ L.has (w.heap.size + 1):=fun hh=>by have:=h.lt _ hh;omega
 have hbb1 : ¬ w.heap.size + 1 = b:=fun hh=>by have:=hi.lt;omega
 have i0:=(hi.grown (grow1 _ (.cells #[.int .i64 t,.int .i64 n,.int .i64 k,.int .i64 m,.int .i64 g,.int .i64 p,.int .i64 r,.pointer (some ⟨L.p,0,none⟩),.int .i64 who] 27))).grown (grow1 _ (.cells #[.int .i64 x,.int .i64 G] 154))
 have k3:=i0.c_se
 go_enter Tryz.func149,Tryz.ntmps149
 go_wp2_with (go_at_call 82;refine (sw _).mono ?_;rintro e w3 ⟨rfl,b3⟩)
 have q0:=At.new w3 87 [.int .i64 2,.int .i64 A,.int .i64 Gs,.int .i64 V]
 obtain ⟨S,hS⟩ : ∃ S,w3.heap.size = S:=⟨_,rfl⟩
 have lS : ¬ L.has S:=fun hh=>by have:=h.lt _ hh;have:=b3.size;simp only [Go.Deep.nblk_alloc] at this;omega
 have bS : S ≠ b:=by have:=hi.lt;have:=b3.size;simp only [Go.Deep.nblk_alloc] at this;omega
 rw [hS] at q0 ⊢
 refine wp_over (fun W=>MemAt W L s /\ AcAt W b o T cs a /\ BoxV W w.heap.size t n k m g p r L.p who /\ At W S 0 87 _ [.int .i64 2,.int .i64 A,.int .i64 Gs,.int .i64 V] /\ Only (L.and b) w W) ⟨(((h.alloc _).alloc _).below b3).alloc _,(i0.grown b3).grown (grow1 _ _),((BoxV.newB _).grown b3).grown (grow1 _ _),q0,((((Only.refl _ _).alloc _).alloc _).trans (Only.ofGrown b3)).alloc _⟩ ?_
 clear b3 i0 k3 sw q0 hS
 rintro W ⟨m1,i1,v1,q1,o1⟩
 refine wp_region_phase (OnlyBut L b (o + 10)) Grown (phAc L b o T cs (cs.setIfInBounds (o + 10) (.int .u64 u)) s ((s.by who).step (A + 1 + j) (s.wd (A + 1 + j))) a { a with ce:=u }) [5,8] [.val (.pointer (some ⟨b,o,none⟩)),.val (.agg #[.int .i64 t,.int .i64 n,.int .i64 k,.int .i64 m,.int .i64 g,.int .i64 p,.int .i64 r,.pointer (some ⟨L.p,0,none⟩),.int .i64 who]),.val (.pointer (some ⟨b,o,none⟩)),.val (.agg #[.int .i64 2,.int .i64 A,.int .i64 Gs,.int .i64 V]),.val (.int .i64 (((A + 1 + j) : Nat) : Int)),.val (.int .u64 u),.val (.pointer (some ⟨b,o,none⟩)),.val (.pointer (some ⟨b,o + 10,none⟩)),.that (fun _ _=>True) (fun _ _ _ _ _=>trivial)]
  (by kernel_rfl) OnlyBut.refl OnlyBut.trans OnlyBut.ofGrown phAc_grown ⟨m1.drew,i1.drew⟩ (by kernel_rfl) (by kernel_rfl) (by kernel_rfl) (by kernel_rfl) (by kernel_rfl) ?_
 simp only [phaseAll,Act.put,List.setIfInBounds_toArray,List.set_cons_zero,List.set_cons_succ]
 refine ⟨?_,?_,?_,?_,?_,?_,?_,?_,?_,?_⟩
 · intros;apply ol;go_simp;exact gl
 · intro w' hR _
   apply ol
   obtain ⟨y0,y1,y2,y3,y4,y5,y6,y7,y8⟩:=(v1.grown ((Below.refl _ _).drew)).only hR.only (fun hh=>hh.elim hbv hbb)
   go_simp
   exact gl
 · intros;apply ol;go_simp;exact gl
 · intro w' hR _
   apply ol
   have z0:=(q1.drew.only hR.only (fun hh=>hh.elim lS bS)).at0 0 rfl
   have z1:=(q1.drew.only hR.only (fun hh=>hh.elim lS bS)).at0 1 rfl
   have z2:=(q1.drew.only hR.only (fun hh=>hh.elim lS bS)).at0 2 rfl
   have z3:=(q1.drew.only hR.only (fun hh=>hh.elim lS bS)).at0 3 rfl
   go_simp
   exact gl
 · intro w' hR _
   apply ol
   go_simp
   refine (aplace_any 2 A Gs V j (hR.keep (j:=o + 3) (by omega) (by have z:=i1.drew.c_ix;rwa [HX.out] at z)) (by omega) (by omega) (by omega) (by omega)).mono ?_
   rintro e w'' ⟨rfl,b9⟩
   exact ⟨_,rfl,b9,congrArg (Value.int .i64) (by omega)⟩
 · intro w' hR _ hP
   apply ol
   go_simp
   refine (eload_in (s:=s) hP.1 _ _ _ _ _ _ _ _ (A + 1 + j) hn).mono ?_
   rintro e w'' ⟨rfl,m2,o2⟩
   exact ⟨_,rfl,⟨OnlyBut.ofOnly o2 hb,m2,hP.2.only o2 hb⟩,by simp [Want.pred,HU.out]⟩
 · intros;apply ol;go_simp;exact gl
 · intros;apply ol;go_simp;exact gl
 · intro w' hR _ hP
   apply ol
   have z0:=hP.2.c_ce
   have z1:=hP.2.fz
   go_simp
   exact ⟨⟨OnlyBut.set _ _,hP.1.setIn hb _ _,hP.2.set_ce _⟩,trivial⟩
 intro vv w2 hR hP _
 obtain ⟨m2,i2⟩ : MemAt w2 L ((s.by who).step (A + 1 + j) (s.wd (A + 1 + j))) /\ AcAt w2 b o T (cs.setIfInBounds (o + 10) (.int .u64 u)) { a with ce:=u }:=hP
 have o2 : Only (L.and b) w w2:=o1.drew.trans hR.only
 have v2:=(v1.grown ((Below.refl _ _).drew)).only hR.only (fun hh=>hh.elim hbv hbb)
 have q2:=q1.drew.only hR.only (fun hh=>hh.elim lS bS)
 have s2 : Same o 24 cs (cs.setIfInBounds (o + 10) (.int .u64 u)):=Same.refl.set (by omega) _
 obtain ⟨g0,g1,g2,g3,g4,g5,g6,g7,g8⟩:=id v2
 clear hR o1 v1 m1 i1 q1
 go_wp2_with (first
  | (go_at_call 17;refine (now_any m2 _ _ _ _ _ _ _ _ σ HS.out).mono ?_;rintro e w3 ⟨rfl,b3⟩;have i3:=i2.grown b3;have k8:=i3.c_ld;have kf:=i3.fz;have i4:=i3.set_ld σ;have m4:=(m2.below b3).setIn hb (o + 11) (.int .i64 σ);have q4:=(q2.grown b3).other bS (o + 11) (.int .i64 σ);have o4:=(o2.trans (Only.ofGrown b3)).set (o + 11) (.int .i64 σ);have k7 : (w3.setCell ⟨b,o + 11,none⟩ (.int .i64 σ)).cell? ⟨b,o + 10,none⟩ = some (.int .u64 u):=i4.c_ce)
  | (go_at_call 138;refine (cc _).mono ?_;rintro e w5 ⟨rfl,b5⟩;have i6:=(i4.grown b5).grown (grow1 _ (.cells #[.int .i64 z,.bool true,.int .i64 V] 185));have m6:=(m4.below b5).alloc (.cells #[.int .i64 z,.bool true,.int .i64 V] 185);have o6:=(o4.trans (Only.ofGrown b5)).alloc (.cells #[.int .i64 z,.bool true,.int .i64 V] 185);have q6:=(q4.grown b5).grown (grow1 _ (.cells #[.int .i64 z,.bool true,.int .i64 V] 185));have c6:=At.new w5 185 [.int .i64 z,.bool true,.int .i64 V];have z0:=c6.at0 0 rfl;have z1:=c6.at0 1 rfl;have z2:=c6.at0 2 rfl)
  | (go_at_call 155;refine (areads_any i6 z true V).mono ?_;rintro e w7 ⟨rfl,b7⟩;rw [show (decide (({ a with ce:=u,ld:=σ } : CV).kd = 1) || ({ a with ce:=u,ld:=σ } : CV).oth z) = false from HR.out];have i7:=i6.grown b7;have m7:=m6.below b7;have o7:=o6.trans (Only.ofGrown b7);have q7:=q6.grown b7;have c7:=c6.grown b7;have t0:=q7.at0 0 rfl;have t3:=q7.at0 3 rfl;have t1:=c7.at0 1 rfl;have t2:=c7.at0 2 rfl;have k0:=i7.c_nx;have lf:=i7.fz))
 go_end0
 exact ⟨rfl,_,_,_,m7.setIn hb _ _,o7.set _ _,i7.set_nx 5,(s2.set (by omega) _).set (by omega) _,rfl,rfl⟩
set_option maxHeartbeats 1000000 in
theorem aload_anew {w : World} {L : Loc} {s : Mm} {b o : Nat} {T : TypeId} {cs : Array Value} {t n k m : Nat} {g p r : Int} {a : CV} (h : MemAt w L s) (hb : ¬ L.has b) (hi : AcAt w b o T cs a) (who : Int) {x : Nat} {G : Int} {st : Int} {A : Nat} {Gs V : Int} (hs : SlotIs a.se st A Gs V) {j : Nat} (hix : a.ix = j) (j1 : j <= 16) (hn : (A + 1 + j) < s.n) {u z vr : Int} {fz : Bool} (hu : s.wd (A + 1 + j) = u) (hc : CellIs u z fz vr) {σ : Nat} (hσ : wrap64 (s.steps + 1) = σ) (hr : (decide (a.kd = 1) || a.oth z) = false) (h4 : st ≠ 4) (h2 : st ≠ 2) (hf : fz = true) (hv : vr = V) :
 Calls Tryz.prog 149 #[.pointer (some ⟨b,o,none⟩),.agg #[.int .i64 t,.int .i64 n,.int .i64 k,.int .i64 m,.int .i64 g,.int .i64 p,.int .i64 r,.pointer (some ⟨L.p,0,none⟩),.int .i64 who],.agg #[.int .i64 x,.int .i64 G]] w fun e w'=>e = .returned (.tuple #[]) /\ Cact L b o T cs w w' (fun s' a'=>s' = ((s.by who).step (A + 1 + j) (s.wd (A + 1 + j))) /\ a' = { a with ce:=u,ld:=σ,nx:=0 }):=by
 have HU : Hid (s.wd (A + 1 + j) = u):=hu
 have HS : Hid ((((s.by who).step (A + 1 + j) (s.wd (A + 1 + j)))).steps = σ):=hσ
 have HR : Hid ((decide (a.kd = 1) || a.oth z) = false):=hr
 have sw:=hs.call
 have cc:=hc.call
 have ab : (A : Int) <= 1048575:=by have:=hs.ad;omega
 have HX : Hid (a.ix = j):=hix
 clear hu hs hc hσ hr hix
 subst hf
 have hv:=hv.symm
 subst hv
 have hbv : ¬ L.has w.heap.size:=fun hh=>by have:=h.lt _ hh;omega
 have hbb : ¬ w.heap.size = b:=fun hh=>by have:=hi.lt;omega
 have hbv1 : ¬ L.has (w.heap.size + 1):=fun hh=>by have:=h.lt _ hh;omega
 have hbb1 : ¬ w.heap.size + 1 = b:=fun hh=>by have:=hi.lt;omega
 have i0:=(hi.grown (grow1 _ (.cells #[.int .i64 t,.int .i64 n,.int .i64 k,.int .i64 m,.int .i64 g,.int .i64 p,.int .i64 r,.pointer (some ⟨L.p,0,none⟩),.int .i64 who] 27))).grown (grow1 _ (.cells #[.int .i64 x,.int .i64 G] 154))
 have k3:=i0.c_se
 go_enter Tryz.func149,Tryz.ntmps149
 go_wp2_with (go_at_call 82;refine (sw _).mono ?_;rintro e w3 ⟨rfl,b3⟩)
 have q0:=At.new w3 87 [.int .i64 st,.int .i64 A,.int .i64 Gs,.int .i64 V]
 obtain ⟨S,hS⟩ : ∃ S,w3.heap.size = S:=⟨_,rfl⟩
 have lS : ¬ L.has S:=fun hh=>by have:=h.lt _ hh;have:=b3.size;simp only [Go.Deep.nblk_alloc] at this;omega
 have bS : S ≠ b:=by have:=hi.lt;have:=b3.size;simp only [Go.Deep.nblk_alloc] at this;omega
 rw [hS] at q0 ⊢
 refine wp_over (fun W=>MemAt W L s /\ AcAt W b o T cs a /\ BoxV W w.heap.size t n k m g p r L.p who /\ At W S 0 87 _ [.int .i64 st,.int .i64 A,.int .i64 Gs,.int .i64 V] /\ Only (L.and b) w W) ⟨(((h.alloc _).alloc _).below b3).alloc _,(i0.grown b3).grown (grow1 _ _),((BoxV.newB _).grown b3).grown (grow1 _ _),q0,((((Only.refl _ _).alloc _).alloc _).trans (Only.ofGrown b3)).alloc _⟩ ?_
 clear b3 i0 k3 sw q0 hS
 rintro W ⟨m1,i1,v1,q1,o1⟩
 refine wp_region_phase (OnlyBut L b (o + 10)) Grown (phAc L b o T cs (cs.setIfInBounds (o + 10) (.int .u64 u)) s ((s.by who).step (A + 1 + j) (s.wd (A + 1 + j))) a { a with ce:=u }) [5,8] [.val (.pointer (some ⟨b,o,none⟩)),.val (.agg #[.int .i64 t,.int .i64 n,.int .i64 k,.int .i64 m,.int .i64 g,.int .i64 p,.int .i64 r,.pointer (some ⟨L.p,0,none⟩),.int .i64 who]),.val (.pointer (some ⟨b,o,none⟩)),.val (.agg #[.int .i64 st,.int .i64 A,.int .i64 Gs,.int .i64 V]),.val (.int .i64 (((A + 1 + j) : Nat) : Int)),.val (.int .u64 u),.val (.pointer (some ⟨b,o,none⟩)),.val (.pointer (some ⟨b,o + 10,none⟩)),.that (fun _ _=>True) (fun _ _ _ _ _=>trivial)]
  (by kernel_rfl) OnlyBut.refl OnlyBut.trans OnlyBut.ofGrown phAc_grown ⟨m1.drew,i1.drew⟩ (by kernel_rfl) (by kernel_rfl) (by kernel_rfl) (by kernel_rfl) (by kernel_rfl) ?_
 simp only [phaseAll,Act.put,List.setIfInBounds_toArray,List.set_cons_zero,List.set_cons_succ]
 refine ⟨?_,?_,?_,?_,?_,?_,?_,?_,?_,?_⟩
 · intros;apply ol;go_simp;exact gl
 · intro w' hR _
   apply ol
   obtain ⟨y0,y1,y2,y3,y4,y5,y6,y7,y8⟩:=(v1.grown ((Below.refl _ _).drew)).only hR.only (fun hh=>hh.elim hbv hbb)
   go_simp
   exact gl
 · intros;apply ol;go_simp;exact gl
 · intro w' hR _
   apply ol
   have z0:=(q1.drew.only hR.only (fun hh=>hh.elim lS bS)).at0 0 rfl
   have z1:=(q1.drew.only hR.only (fun hh=>hh.elim lS bS)).at0 1 rfl
   have z2:=(q1.drew.only hR.only (fun hh=>hh.elim lS bS)).at0 2 rfl
   have z3:=(q1.drew.only hR.only (fun hh=>hh.elim lS bS)).at0 3 rfl
   go_simp
   exact gl
 · intro w' hR _
   apply ol
   go_simp
   refine (aplace_any st A Gs V j (hR.keep (j:=o + 3) (by omega) (by have z:=i1.drew.c_ix;rwa [HX.out] at z)) (by omega) (by omega) (by omega) (by omega)).mono ?_
   rintro e w'' ⟨rfl,b9⟩
   exact ⟨_,rfl,b9,congrArg (Value.int .i64) (by omega)⟩
 · intro w' hR _ hP
   apply ol
   go_simp
   refine (eload_in (s:=s) hP.1 _ _ _ _ _ _ _ _ (A + 1 + j) hn).mono ?_
   rintro e w'' ⟨rfl,m2,o2⟩
   exact ⟨_,rfl,⟨OnlyBut.ofOnly o2 hb,m2,hP.2.only o2 hb⟩,by simp [Want.pred,HU.out]⟩
 · intros;apply ol;go_simp;exact gl
 · intros;apply ol;go_simp;exact gl
 · intro w' hR _ hP
   apply ol
   have z0:=hP.2.c_ce
   have z1:=hP.2.fz
   go_simp
   exact ⟨⟨OnlyBut.set _ _,hP.1.setIn hb _ _,hP.2.set_ce _⟩,trivial⟩
 intro vv w2 hR hP _
 obtain ⟨m2,i2⟩ : MemAt w2 L ((s.by who).step (A + 1 + j) (s.wd (A + 1 + j))) /\ AcAt w2 b o T (cs.setIfInBounds (o + 10) (.int .u64 u)) { a with ce:=u }:=hP
 have o2 : Only (L.and b) w w2:=o1.drew.trans hR.only
 have v2:=(v1.grown ((Below.refl _ _).drew)).only hR.only (fun hh=>hh.elim hbv hbb)
 have q2:=q1.drew.only hR.only (fun hh=>hh.elim lS bS)
 have s2 : Same o 24 cs (cs.setIfInBounds (o + 10) (.int .u64 u)):=Same.refl.set (by omega) _
 obtain ⟨g0,g1,g2,g3,g4,g5,g6,g7,g8⟩:=id v2
 clear hR o1 v1 m1 i1 q1
 go_wp2_with (first
  | (go_at_call 17;refine (now_any m2 _ _ _ _ _ _ _ _ σ HS.out).mono ?_;rintro e w3 ⟨rfl,b3⟩;have i3:=i2.grown b3;have k8:=i3.c_ld;have kf:=i3.fz;have i4:=i3.set_ld σ;have m4:=(m2.below b3).setIn hb (o + 11) (.int .i64 σ);have q4:=(q2.grown b3).other bS (o + 11) (.int .i64 σ);have o4:=(o2.trans (Only.ofGrown b3)).set (o + 11) (.int .i64 σ);have k7 : (w3.setCell ⟨b,o + 11,none⟩ (.int .i64 σ)).cell? ⟨b,o + 10,none⟩ = some (.int .u64 u):=i4.c_ce)
  | (go_at_call 138;refine (cc _).mono ?_;rintro e w5 ⟨rfl,b5⟩;have i6:=(i4.grown b5).grown (grow1 _ (.cells #[.int .i64 z,.bool true,.int .i64 V] 185));have m6:=(m4.below b5).alloc (.cells #[.int .i64 z,.bool true,.int .i64 V] 185);have o6:=(o4.trans (Only.ofGrown b5)).alloc (.cells #[.int .i64 z,.bool true,.int .i64 V] 185);have q6:=(q4.grown b5).grown (grow1 _ (.cells #[.int .i64 z,.bool true,.int .i64 V] 185));have c6:=At.new w5 185 [.int .i64 z,.bool true,.int .i64 V];have z0:=c6.at0 0 rfl;have z1:=c6.at0 1 rfl;have z2:=c6.at0 2 rfl)
  | (go_at_call 155;refine (areads_any i6 z true V).mono ?_;rintro e w7 ⟨rfl,b7⟩;rw [show (decide (({ a with ce:=u,ld:=σ } : CV).kd = 1) || ({ a with ce:=u,ld:=σ } : CV).oth z) = false from HR.out];have i7:=i6.grown b7;have m7:=m6.below b7;have o7:=o6.trans (Only.ofGrown b7);have q7:=q6.grown b7;have c7:=c6.grown b7;have t0:=q7.at0 0 rfl;have t3:=q7.at0 3 rfl;have t1:=c7.at0 1 rfl;have t2:=c7.at0 2 rfl;have k0:=i7.c_nx;have lf:=i7.fz))
 go_end0
 exact ⟨rfl,_,_,_,m7.setIn hb _ _,o7.set _ _,i7.set_nx 0,(s2.set (by omega) _).set (by omega) _,rfl,rfl⟩
set_option maxHeartbeats 1000000 in
theorem aload_more {w : World} {L : Loc} {s : Mm} {b o : Nat} {T : TypeId} {cs : Array Value} {t n k m : Nat} {g p r : Int} {a : CV} (h : MemAt w L s) (hb : ¬ L.has b) (hi : AcAt w b o T cs a) (who : Int) {x : Nat} {G : Int} {st : Int} {A : Nat} {Gs V : Int} (hs : SlotIs a.se st A Gs V) {j : Nat} (hix : a.ix = j) (j1 : j <= 16) (hn : (A + 1 + j) < s.n) {u z vr : Int} {fz : Bool} (hu : s.wd (A + 1 + j) = u) (hc : CellIs u z fz vr) {σ : Nat} (hσ : wrap64 (s.steps + 1) = σ) (hr : (decide (a.kd = 1) || a.oth z) = false) (h4 : st ≠ 4) (hf : fz = true) (hv : ¬ vr = V) (hge : vr ≥ V) :
 Calls Tryz.prog 149 #[.pointer (some ⟨b,o,none⟩),.agg #[.int .i64 t,.int .i64 n,.int .i64 k,.int .i64 m,.int .i64 g,.int .i64 p,.int .i64 r,.pointer (some ⟨L.p,0,none⟩),.int .i64 who],.agg #[.int .i64 x,.int .i64 G]] w fun e w'=>e = .returned (.tuple #[]) /\ Cact L b o T cs w w' (fun s' a'=>s' = ((s.by who).step (A + 1 + j) (s.wd (A + 1 + j))) /\ a' = { a with ce:=u,ld:=σ,nx:=0 }):=by
 have HU : Hid (s.wd (A + 1 + j) = u):=hu
 have HS : Hid ((((s.by who).step (A + 1 + j) (s.wd (A + 1 + j)))).steps = σ):=hσ
 have HR : Hid ((decide (a.kd = 1) || a.oth z) = false):=hr
 have sw:=hs.call
 have cc:=hc.call
 have ab : (A : Int) <= 1048575:=by have:=hs.ad;omega
 have HX : Hid (a.ix = j):=hix
 clear hu hs hc hσ hr hix
 subst hf
 have hbv : ¬ L.has w.heap.size:=fun hh=>by have:=h.lt _ hh;omega
 have hbb : ¬ w.heap.size = b:=fun hh=>by have:=hi.lt;omega
 have hbv1 : ¬ L.has (w.heap.size + 1):=fun hh=>by have:=h.lt _ hh;omega
 have hbb1 : ¬ w.heap.size + 1 = b:=fun hh=>by have:=hi.lt;omega
 have i0:=(hi.grown (grow1 _ (.cells #[.int .i64 t,.int .i64 n,.int .i64 k,.int .i64 m,.int .i64 g,.int .i64 p,.int .i64 r,.pointer (some ⟨L.p,0,none⟩),.int .i64 who] 27))).grown (grow1 _ (.cells #[.int .i64 x,.int .i64 G] 154))
 have k3:=i0.c_se
 go_enter Tryz.func149,Tryz.ntmps149
 go_wp2_with (go_at_call 82;refine (sw _).mono ?_;rintro e w3 ⟨rfl,b3⟩)
 have q0:=At.new w3 87 [.int .i64 st,.int .i64 A,.int .i64 Gs,.int .i64 V]
 obtain ⟨S,hS⟩ : ∃ S,w3.heap.size = S:=⟨_,rfl⟩
 have lS : ¬ L.has S:=fun hh=>by have:=h.lt _ hh;have:=b3.size;simp only [Go.Deep.nblk_alloc] at this;omega
 have bS : S ≠ b:=by have:=hi.lt;have:=b3.size;simp only [Go.Deep.nblk_alloc] at this;omega
 rw [hS] at q0 ⊢
 refine wp_over (fun W=>MemAt W L s /\ AcAt W b o T cs a /\ BoxV W w.heap.size t n k m g p r L.p who /\ At W S 0 87 _ [.int .i64 st,.int .i64 A,.int .i64 Gs,.int .i64 V] /\ Only (L.and b) w W) ⟨(((h.alloc _).alloc _).below b3).alloc _,(i0.grown b3).grown (grow1 _ _),((BoxV.newB _).grown b3).grown (grow1 _ _),q0,((((Only.refl _ _).alloc _).alloc _).trans (Only.ofGrown b3)).alloc _⟩ ?_
 clear b3 i0 k3 sw q0 hS
 rintro W ⟨m1,i1,v1,q1,o1⟩
 refine wp_region_phase (OnlyBut L b (o + 10)) Grown (phAc L b o T cs (cs.setIfInBounds (o + 10) (.int .u64 u)) s ((s.by who).step (A + 1 + j) (s.wd (A + 1 + j))) a { a with ce:=u }) [5,8] [.val (.pointer (some ⟨b,o,none⟩)),.val (.agg #[.int .i64 t,.int .i64 n,.int .i64 k,.int .i64 m,.int .i64 g,.int .i64 p,.int .i64 r,.pointer (some ⟨L.p,0,none⟩),.int .i64 who]),.val (.pointer (some ⟨b,o,none⟩)),.val (.agg #[.int .i64 st,.int .i64 A,.int .i64 Gs,.int .i64 V]),.val (.int .i64 (((A + 1 + j) : Nat) : Int)),.val (.int .u64 u),.val (.pointer (some ⟨b,o,none⟩)),.val (.pointer (some ⟨b,o + 10,none⟩)),.that (fun _ _=>True) (fun _ _ _ _ _=>trivial)]
  (by kernel_rfl) OnlyBut.refl OnlyBut.trans OnlyBut.ofGrown phAc_grown ⟨m1.drew,i1.drew⟩ (by kernel_rfl) (by kernel_rfl) (by kernel_rfl) (by kernel_rfl) (by kernel_rfl) ?_
 simp only [phaseAll,Act.put,List.setIfInBounds_toArray,List.set_cons_zero,List.set_cons_succ]
 refine ⟨?_,?_,?_,?_,?_,?_,?_,?_,?_,?_⟩
 · intros;apply ol;go_simp;exact gl
 · intro w' hR _
   apply ol
   obtain ⟨y0,y1,y2,y3,y4,y5,y6,y7,y8⟩:=(v1.grown ((Below.refl _ _).drew)).only hR.only (fun hh=>hh.elim hbv hbb)
   go_simp
   exact gl
 · intros;apply ol;go_simp;exact gl
 · intro w' hR _
   apply ol
   have z0:=(q1.drew.only hR.only (fun hh=>hh.elim lS bS)).at0 0 rfl
   have z1:=(q1.drew.only hR.only (fun hh=>hh.elim lS bS)).at0 1 rfl
   have z2:=(q1.drew.only hR.only (fun hh=>hh.elim lS bS)).at0 2 rfl
   have z3:=(q1.drew.only hR.only (fun hh=>hh.elim lS bS)).at0 3 rfl
   go_simp
   exact gl
 · intro w' hR _
   apply ol
   go_simp
   refine (aplace_any st A Gs V j (hR.keep (j:=o + 3) (by omega) (by have z:=i1.drew.c_ix;rwa [HX.out] at z)) (by omega) (by omega) (by omega) (by omega)).mono ?_
   rintro e w'' ⟨rfl,b9⟩
   exact ⟨_,rfl,b9,congrArg (Value.int .i64) (by omega)⟩
 · intro w' hR _ hP
   apply ol
   go_simp
   refine (eload_in (s:=s) hP.1 _ _ _ _ _ _ _ _ (A + 1 + j) hn).mono ?_
   rintro e w'' ⟨rfl,m2,o2⟩
   exact ⟨_,rfl,⟨OnlyBut.ofOnly o2 hb,m2,hP.2.only o2 hb⟩,by simp [Want.pred,HU.out]⟩
 · intros;apply ol;go_simp;exact gl
 · intros;apply ol;go_simp;exact gl
 · intro w' hR _ hP
   apply ol
   have z0:=hP.2.c_ce
   have z1:=hP.2.fz
   go_simp
   exact ⟨⟨OnlyBut.set _ _,hP.1.setIn hb _ _,hP.2.set_ce _⟩,trivial⟩
 intro vv w2 hR hP _
 obtain ⟨m2,i2⟩ : MemAt w2 L ((s.by who).step (A + 1 + j) (s.wd (A + 1 + j))) /\ AcAt w2 b o T (cs.setIfInBounds (o + 10) (.int .u64 u)) { a with ce:=u }:=hP
 have o2 : Only (L.and b) w w2:=o1.drew.trans hR.only
 have v2:=(v1.grown ((Below.refl _ _).drew)).only hR.only (fun hh=>hh.elim hbv hbb)
 have q2:=q1.drew.only hR.only (fun hh=>hh.elim lS bS)
 have s2 : Same o 24 cs (cs.setIfInBounds (o + 10) (.int .u64 u)):=Same.refl.set (by omega) _
 obtain ⟨g0,g1,g2,g3,g4,g5,g6,g7,g8⟩:=id v2
 clear hR o1 v1 m1 i1 q1
 go_wp2_with (first
  | (go_at_call 17;refine (now_any m2 _ _ _ _ _ _ _ _ σ HS.out).mono ?_;rintro e w3 ⟨rfl,b3⟩;have i3:=i2.grown b3;have k8:=i3.c_ld;have kf:=i3.fz;have i4:=i3.set_ld σ;have m4:=(m2.below b3).setIn hb (o + 11) (.int .i64 σ);have q4:=(q2.grown b3).other bS (o + 11) (.int .i64 σ);have o4:=(o2.trans (Only.ofGrown b3)).set (o + 11) (.int .i64 σ);have k7 : (w3.setCell ⟨b,o + 11,none⟩ (.int .i64 σ)).cell? ⟨b,o + 10,none⟩ = some (.int .u64 u):=i4.c_ce)
  | (go_at_call 138;refine (cc _).mono ?_;rintro e w5 ⟨rfl,b5⟩;have i6:=(i4.grown b5).grown (grow1 _ (.cells #[.int .i64 z,.bool true,.int .i64 vr] 185));have m6:=(m4.below b5).alloc (.cells #[.int .i64 z,.bool true,.int .i64 vr] 185);have o6:=(o4.trans (Only.ofGrown b5)).alloc (.cells #[.int .i64 z,.bool true,.int .i64 vr] 185);have q6:=(q4.grown b5).grown (grow1 _ (.cells #[.int .i64 z,.bool true,.int .i64 vr] 185));have c6:=At.new w5 185 [.int .i64 z,.bool true,.int .i64 vr];have z0:=c6.at0 0 rfl;have z1:=c6.at0 1 rfl;have z2:=c6.at0 2 rfl)
  | (go_at_call 155;refine (areads_any i6 z true vr).mono ?_;rintro e w7 ⟨rfl,b7⟩;rw [show (decide (({ a with ce:=u,ld:=σ } : CV).kd = 1) || ({ a with ce:=u,ld:=σ } : CV).oth z) = false from HR.out];have i7:=i6.grown b7;have m7:=m6.below b7;have o7:=o6.trans (Only.ofGrown b7);have q7:=q6.grown b7;have c7:=c6.grown b7;have t0:=q7.at0 0 rfl;have t3:=q7.at0 3 rfl;have t1:=c7.at0 1 rfl;have t2:=c7.at0 2 rfl;have k0:=i7.c_nx;have lf:=i7.fz))
 go_end0
 exact ⟨rfl,_,_,_,m7.setIn hb _ _,o7.set _ _,i7.set_nx 0,(s2.set (by omega) _).set (by omega) _,rfl,rfl⟩
set_option maxHeartbeats 1000000 in
theorem aload_open {w : World} {L : Loc} {s : Mm} {b o : Nat} {T : TypeId} {cs : Array Value} {t n k m : Nat} {g p r : Int} {a : CV} (h : MemAt w L s) (hb : ¬ L.has b) (hi : AcAt w b o T cs a) (who : Int) {x : Nat} {G : Int} {st : Int} {A : Nat} {Gs V : Int} (hs : SlotIs a.se st A Gs V) {j : Nat} (hix : a.ix = j) (j1 : j <= 16) (hn : (A + 1 + j) < s.n) {u z vr : Int} {fz : Bool} (hu : s.wd (A + 1 + j) = u) (hc : CellIs u z fz vr) {σ : Nat} (hσ : wrap64 (s.steps + 1) = σ) (hr : (decide (a.kd = 1) || a.oth z) = false) (h4 : st ≠ 4) (hf : fz = false) :
 Calls Tryz.prog 149 #[.pointer (some ⟨b,o,none⟩),.agg #[.int .i64 t,.int .i64 n,.int .i64 k,.int .i64 m,.int .i64 g,.int .i64 p,.int .i64 r,.pointer (some ⟨L.p,0,none⟩),.int .i64 who],.agg #[.int .i64 x,.int .i64 G]] w fun e w'=>e = .returned (.tuple #[]) /\ Cact L b o T cs w w' (fun s' a'=>s' = ((s.by who).step (A + 1 + j) (s.wd (A + 1 + j))) /\ a' = { a with ce:=u,ld:=σ,nx:=6 }):=by
 have HU : Hid (s.wd (A + 1 + j) = u):=hu
 have HS : Hid ((((s.by who).step (A + 1 + j) (s.wd (A + 1 + j)))).steps = σ):=hσ
 have HR : Hid ((decide (a.kd = 1) || a.oth z) = false):=hr
 have sw:=hs.call
 have cc:=hc.call
 have ab : (A : Int) <= 1048575:=by have:=hs.ad;omega
 have HX : Hid (a.ix = j):=hix
 clear hu hs hc hσ hr hix
 subst hf
 have hbv : ¬ L.has w.heap.size:=fun hh=>by have:=h.lt _ hh;omega
 have hbb : ¬ w.heap.size = b:=fun hh=>by have:=hi.lt;omega
 have hbv1 : ¬ L.has (w.heap.size + 1):=fun hh=>by have:=h.lt _ hh;omega
 have hbb1 : ¬ w.heap.size + 1 = b:=fun hh=>by have:=hi.lt;omega
 have i0:=(hi.grown (grow1 _ (.cells #[.int .i64 t,.int .i64 n,.int .i64 k,.int .i64 m,.int .i64 g,.int .i64 p,.int .i64 r,.pointer (some ⟨L.p,0,none⟩),.int .i64 who] 27))).grown (grow1 _ (.cells #[.int .i64 x,.int .i64 G] 154))
 have k3:=i0.c_se
 go_enter Tryz.func149,Tryz.ntmps149
 go_wp2_with (go_at_call 82;refine (sw _).mono ?_;rintro e w3 ⟨rfl,b3⟩)
 have q0:=At.new w3 87 [.int .i64 st,.int .i64 A,.int .i64 Gs,.int .i64 V]
 obtain ⟨S,hS⟩ : ∃ S,w3.heap.size = S:=⟨_,rfl⟩
 have lS : ¬ L.has S:=fun hh=>by have:=h.lt _ hh;have:=b3.size;simp only [Go.Deep.nblk_alloc] at this;omega
 have bS : S ≠ b:=by have:=hi.lt;have:=b3.size;simp only [Go.Deep.nblk_alloc] at this;omega
 rw [hS] at q0 ⊢
 refine wp_over (fun W=>MemAt W L s /\ AcAt W b o T cs a /\ BoxV W w.heap.size t n k m g p r L.p who /\ At W S 0 87 _ [.int .i64 st,.int .i64 A,.int .i64 Gs,.int .i64 V] /\ Only (L.and b) w W) ⟨(((h.alloc _).alloc _).below b3).alloc _,(i0.grown b3).grown (grow1 _ _),((BoxV.newB _).grown b3).grown (grow1 _ _),q0,((((Only.refl _ _).alloc _).alloc _).trans (Only.ofGrown b3)).alloc _⟩ ?_
 clear b3 i0 k3 sw q0 hS
 rintro W ⟨m1,i1,v1,q1,o1⟩
 refine wp_region_phase (OnlyBut L b (o + 10)) Grown (phAc L b o T cs (cs.setIfInBounds (o + 10) (.int .u64 u)) s ((s.by who).step (A + 1 + j) (s.wd (A + 1 + j))) a { a with ce:=u }) [5,8] [.val (.pointer (some ⟨b,o,none⟩)),.val (.agg #[.int .i64 t,.int .i64 n,.int .i64 k,.int .i64 m,.int .i64 g,.int .i64 p,.int .i64 r,.pointer (some ⟨L.p,0,none⟩),.int .i64 who]),.val (.pointer (some ⟨b,o,none⟩)),.val (.agg #[.int .i64 st,.int .i64 A,.int .i64 Gs,.int .i64 V]),.val (.int .i64 (((A + 1 + j) : Nat) : Int)),.val (.int .u64 u),.val (.pointer (some ⟨b,o,none⟩)),.val (.pointer (some ⟨b,o + 10,none⟩)),.that (fun _ _=>True) (fun _ _ _ _ _=>trivial)]
  (by kernel_rfl) OnlyBut.refl OnlyBut.trans OnlyBut.ofGrown phAc_grown ⟨m1.drew,i1.drew⟩ (by kernel_rfl) (by kernel_rfl) (by kernel_rfl) (by kernel_rfl) (by kernel_rfl) ?_
 simp only [phaseAll,Act.put,List.setIfInBounds_toArray,List.set_cons_zero,List.set_cons_succ]
 refine ⟨?_,?_,?_,?_,?_,?_,?_,?_,?_,?_⟩
 · intros;apply ol;go_simp;exact gl
 · intro w' hR _
   apply ol
   obtain ⟨y0,y1,y2,y3,y4,y5,y6,y7,y8⟩:=(v1.grown ((Below.refl _ _).drew)).only hR.only (fun hh=>hh.elim hbv hbb)
   go_simp
   exact gl
 · intros;apply ol;go_simp;exact gl
 · intro w' hR _
   apply ol
   have z0:=(q1.drew.only hR.only (fun hh=>hh.elim lS bS)).at0 0 rfl
   have z1:=(q1.drew.only hR.only (fun hh=>hh.elim lS bS)).at0 1 rfl
   have z2:=(q1.drew.only hR.only (fun hh=>hh.elim lS bS)).at0 2 rfl
   have z3:=(q1.drew.only hR.only (fun hh=>hh.elim lS bS)).at0 3 rfl
   go_simp
   exact gl
 · intro w' hR _
   apply ol
   go_simp
   refine (aplace_any st A Gs V j (hR.keep (j:=o + 3) (by omega) (by have z:=i1.drew.c_ix;rwa [HX.out] at z)) (by omega) (by omega) (by omega) (by omega)).mono ?_
   rintro e w'' ⟨rfl,b9⟩
   exact ⟨_,rfl,b9,congrArg (Value.int .i64) (by omega)⟩
 · intro w' hR _ hP
   apply ol
   go_simp
   refine (eload_in (s:=s) hP.1 _ _ _ _ _ _ _ _ (A + 1 + j) hn).mono ?_
   rintro e w'' ⟨rfl,m2,o2⟩
   exact ⟨_,rfl,⟨OnlyBut.ofOnly o2 hb,m2,hP.2.only o2 hb⟩,by simp [Want.pred,HU.out]⟩
 · intros;apply ol;go_simp;exact gl
 · intros;apply ol;go_simp;exact gl
 · intro w' hR _ hP
   apply ol
   have z0:=hP.2.c_ce
   have z1:=hP.2.fz
   go_simp
   exact ⟨⟨OnlyBut.set _ _,hP.1.setIn hb _ _,hP.2.set_ce _⟩,trivial⟩
 intro vv w2 hR hP _
 obtain ⟨m2,i2⟩ : MemAt w2 L ((s.by who).step (A + 1 + j) (s.wd (A + 1 + j))) /\ AcAt w2 b o T (cs.setIfInBounds (o + 10) (.int .u64 u)) { a with ce:=u }:=hP
 have o2 : Only (L.and b) w w2:=o1.drew.trans hR.only
 have v2:=(v1.grown ((Below.refl _ _).drew)).only hR.only (fun hh=>hh.elim hbv hbb)
 have q2:=q1.drew.only hR.only (fun hh=>hh.elim lS bS)
 have s2 : Same o 24 cs (cs.setIfInBounds (o + 10) (.int .u64 u)):=Same.refl.set (by omega) _
 obtain ⟨g0,g1,g2,g3,g4,g5,g6,g7,g8⟩:=id v2
 clear hR o1 v1 m1 i1 q1
 go_wp2_with (first
  | (go_at_call 17;refine (now_any m2 _ _ _ _ _ _ _ _ σ HS.out).mono ?_;rintro e w3 ⟨rfl,b3⟩;have i3:=i2.grown b3;have k8:=i3.c_ld;have kf:=i3.fz;have i4:=i3.set_ld σ;have m4:=(m2.below b3).setIn hb (o + 11) (.int .i64 σ);have q4:=(q2.grown b3).other bS (o + 11) (.int .i64 σ);have o4:=(o2.trans (Only.ofGrown b3)).set (o + 11) (.int .i64 σ);have k7 : (w3.setCell ⟨b,o + 11,none⟩ (.int .i64 σ)).cell? ⟨b,o + 10,none⟩ = some (.int .u64 u):=i4.c_ce)
  | (go_at_call 138;refine (cc _).mono ?_;rintro e w5 ⟨rfl,b5⟩;have i6:=(i4.grown b5).grown (grow1 _ (.cells #[.int .i64 z,.bool false,.int .i64 vr] 185));have m6:=(m4.below b5).alloc (.cells #[.int .i64 z,.bool false,.int .i64 vr] 185);have o6:=(o4.trans (Only.ofGrown b5)).alloc (.cells #[.int .i64 z,.bool false,.int .i64 vr] 185);have q6:=(q4.grown b5).grown (grow1 _ (.cells #[.int .i64 z,.bool false,.int .i64 vr] 185));have c6:=At.new w5 185 [.int .i64 z,.bool false,.int .i64 vr];have z0:=c6.at0 0 rfl;have z1:=c6.at0 1 rfl;have z2:=c6.at0 2 rfl)
  | (go_at_call 155;refine (areads_any i6 z false vr).mono ?_;rintro e w7 ⟨rfl,b7⟩;rw [show (decide (({ a with ce:=u,ld:=σ } : CV).kd = 1) || ({ a with ce:=u,ld:=σ } : CV).oth z) = false from HR.out];have i7:=i6.grown b7;have m7:=m6.below b7;have o7:=o6.trans (Only.ofGrown b7);have q7:=q6.grown b7;have c7:=c6.grown b7;have t0:=q7.at0 0 rfl;have t3:=q7.at0 3 rfl;have t1:=c7.at0 1 rfl;have t2:=c7.at0 2 rfl;have k0:=i7.c_nx;have lf:=i7.fz))
 go_end0
 exact ⟨rfl,_,_,_,m7.setIn hb _ _,o7.set _ _,i7.set_nx 6,(s2.set (by omega) _).set (by omega) _,rfl,rfl⟩
set_option maxHeartbeats 1000000 in
theorem aload_old {w : World} {L : Loc} {s : Mm} {b o : Nat} {T : TypeId} {cs : Array Value} {t n k m : Nat} {g p r : Int} {a : CV} (h : MemAt w L s) (hb : ¬ L.has b) (hi : AcAt w b o T cs a) (who : Int) {x : Nat} {G : Int} {st : Int} {A : Nat} {Gs V : Int} (hs : SlotIs a.se st A Gs V) {j : Nat} (hix : a.ix = j) (j1 : j <= 16) (hn : (A + 1 + j) < s.n) {u z vr : Int} {fz : Bool} (hu : s.wd (A + 1 + j) = u) (hc : CellIs u z fz vr) {σ : Nat} (hσ : wrap64 (s.steps + 1) = σ) (hr : (decide (a.kd = 1) || a.oth z) = false) (h4 : st ≠ 4) (hf : fz = true) (hv : ¬ vr = V) (hge : ¬ vr ≥ V) :
 Calls Tryz.prog 149 #[.pointer (some ⟨b,o,none⟩),.agg #[.int .i64 t,.int .i64 n,.int .i64 k,.int .i64 m,.int .i64 g,.int .i64 p,.int .i64 r,.pointer (some ⟨L.p,0,none⟩),.int .i64 who],.agg #[.int .i64 x,.int .i64 G]] w fun e w'=>e = .returned (.tuple #[]) /\ Cact L b o T cs w w' (fun s' a'=>s' = ((s.by who).step (A + 1 + j) (s.wd (A + 1 + j))) /\ a' = { a with ce:=u,ld:=σ,nx:=6 }):=by
 have HU : Hid (s.wd (A + 1 + j) = u):=hu
 have HS : Hid ((((s.by who).step (A + 1 + j) (s.wd (A + 1 + j)))).steps = σ):=hσ
 have HR : Hid ((decide (a.kd = 1) || a.oth z) = false):=hr
 have sw:=hs.call
 have cc:=hc.call
 have ab : (A : Int) <= 1048575:=by have:=hs.ad;omega
 have HX : Hid (a.ix = j):=hix
 clear hu hs hc hσ hr hix
 subst hf
 have hbv : ¬ L.has w.heap.size:=fun hh=>by have:=h.lt _ hh;omega
 have hbb : ¬ w.heap.size = b:=fun hh=>by have:=hi.lt;omega
 have hbv1 : ¬ L.has (w.heap.size + 1):=fun hh=>by have:=h.lt _ hh;omega
 have hbb1 : ¬ w.heap.size + 1 = b:=fun hh=>by have:=hi.lt;omega
 have i0:=(hi.grown (grow1 _ (.cells #[.int .i64 t,.int .i64 n,.int .i64 k,.int .i64 m,.int .i64 g,.int .i64 p,.int .i64 r,.pointer (some ⟨L.p,0,none⟩),.int .i64 who] 27))).grown (grow1 _ (.cells #[.int .i64 x,.int .i64 G] 154))
 have k3:=i0.c_se
 go_enter Tryz.func149,Tryz.ntmps149
 go_wp2_with (go_at_call 82;refine (sw _).mono ?_;rintro e w3 ⟨rfl,b3⟩)
 have q0:=At.new w3 87 [.int .i64 st,.int .i64 A,.int .i64 Gs,.int .i64 V]
 obtain ⟨S,hS⟩ : ∃ S,w3.heap.size = S:=⟨_,rfl⟩
 have lS : ¬ L.has S:=fun hh=>by have:=h.lt _ hh;have:=b3.size;simp only [Go.Deep.nblk_alloc] at this;omega
 have bS : S ≠ b:=by have:=hi.lt;have:=b3.size;simp only [Go.Deep.nblk_alloc] at this;omega
 rw [hS] at q0 ⊢
 refine wp_over (fun W=>MemAt W L s /\ AcAt W b o T cs a /\ BoxV W w.heap.size t n k m g p r L.p who /\ At W S 0 87 _ [.int .i64 st,.int .i64 A,.int .i64 Gs,.int .i64 V] /\ Only (L.and b) w W) ⟨(((h.alloc _).alloc _).below b3).alloc _,(i0.grown b3).grown (grow1 _ _),((BoxV.newB _).grown b3).grown (grow1 _ _),q0,((((Only.refl _ _).alloc _).alloc _).trans (Only.ofGrown b3)).alloc _⟩ ?_
 clear b3 i0 k3 sw q0 hS
 rintro W ⟨m1,i1,v1,q1,o1⟩
 refine wp_region_phase (OnlyBut L b (o + 10)) Grown (phAc L b o T cs (cs.setIfInBounds (o + 10) (.int .u64 u)) s ((s.by who).step (A + 1 + j) (s.wd (A + 1 + j))) a { a with ce:=u }) [5,8] [.val (.pointer (some ⟨b,o,none⟩)),.val (.agg #[.int .i64 t,.int .i64 n,.int .i64 k,.int .i64 m,.int .i64 g,.int .i64 p,.int .i64 r,.pointer (some ⟨L.p,0,none⟩),.int .i64 who]),.val (.pointer (some ⟨b,o,none⟩)),.val (.agg #[.int .i64 st,.int .i64 A,.int .i64 Gs,.int .i64 V]),.val (.int .i64 (((A + 1 + j) : Nat) : Int)),.val (.int .u64 u),.val (.pointer (some ⟨b,o,none⟩)),.val (.pointer (some ⟨b,o + 10,none⟩)),.that (fun _ _=>True) (fun _ _ _ _ _=>trivial)]
  (by kernel_rfl) OnlyBut.refl OnlyBut.trans OnlyBut.ofGrown phAc_grown ⟨m1.drew,i1.drew⟩ (by kernel_rfl) (by kernel_rfl) (by kernel_rfl) (by kernel_rfl) (by kernel_rfl) ?_
 simp only [phaseAll,Act.put,List.setIfInBounds_toArray,List.set_cons_zero,List.set_cons_succ]
 refine ⟨?_,?_,?_,?_,?_,?_,?_,?_,?_,?_⟩
 · intros;apply ol;go_simp;exact gl
 · intro w' hR _
   apply ol
   obtain ⟨y0,y1,y2,y3,y4,y5,y6,y7,y8⟩:=(v1.grown ((Below.refl _ _).drew)).only hR.only (fun hh=>hh.elim hbv hbb)
   go_simp
   exact gl
 · intros;apply ol;go_simp;exact gl
 · intro w' hR _
   apply ol
   have z0:=(q1.drew.only hR.only (fun hh=>hh.elim lS bS)).at0 0 rfl
   have z1:=(q1.drew.only hR.only (fun hh=>hh.elim lS bS)).at0 1 rfl
   have z2:=(q1.drew.only hR.only (fun hh=>hh.elim lS bS)).at0 2 rfl
   have z3:=(q1.drew.only hR.only (fun hh=>hh.elim lS bS)).at0 3 rfl
   go_simp
   exact gl
 · intro w' hR _
   apply ol
   go_simp
   refine (aplace_any st A Gs V j (hR.keep (j:=o + 3) (by omega) (by have z:=i1.drew.c_ix;rwa [HX.out] at z)) (by omega) (by omega) (by omega) (by omega)).mono ?_
   rintro e w'' ⟨rfl,b9⟩
   exact ⟨_,rfl,b9,congrArg (Value.int .i64) (by omega)⟩
 · intro w' hR _ hP
   apply ol
   go_simp
   refine (eload_in (s:=s) hP.1 _ _ _ _ _ _ _ _ (A + 1 + j) hn).mono ?_
   rintro e w'' ⟨rfl,m2,o2⟩
   exact ⟨_,rfl,⟨OnlyBut.ofOnly o2 hb,m2,hP.2.only o2 hb⟩,by simp [Want.pred,HU.out]⟩
 · intros;apply ol;go_simp;exact gl
 · intros;apply ol;go_simp;exact gl
 · intro w' hR _ hP
   apply ol
   have z0:=hP.2.c_ce
   have z1:=hP.2.fz
   go_simp
   exact ⟨⟨OnlyBut.set _ _,hP.1.setIn hb _ _,hP.2.set_ce _⟩,trivial⟩
 intro vv w2 hR hP _
 obtain ⟨m2,i2⟩ : MemAt w2 L ((s.by who).step (A + 1 + j) (s.wd (A + 1 + j))) /\ AcAt w2 b o T (cs.setIfInBounds (o + 10) (.int .u64 u)) { a with ce:=u }:=hP
 have o2 : Only (L.and b) w w2:=o1.drew.trans hR.only
 have v2:=(v1.grown ((Below.refl _ _).drew)).only hR.only (fun hh=>hh.elim hbv hbb)
 have q2:=q1.drew.only hR.only (fun hh=>hh.elim lS bS)
 have s2 : Same o 24 cs (cs.setIfInBounds (o + 10) (.int .u64 u)):=Same.refl.set (by omega) _
 obtain ⟨g0,g1,g2,g3,g4,g5,g6,g7,g8⟩:=id v2
 clear hR o1 v1 m1 i1 q1
 go_wp2_with (first
  | (go_at_call 17;refine (now_any m2 _ _ _ _ _ _ _ _ σ HS.out).mono ?_;rintro e w3 ⟨rfl,b3⟩;have i3:=i2.grown b3;have k8:=i3.c_ld;have kf:=i3.fz;have i4:=i3.set_ld σ;have m4:=(m2.below b3).setIn hb (o + 11) (.int .i64 σ);have q4:=(q2.grown b3).other bS (o + 11) (.int .i64 σ);have o4:=(o2.trans (Only.ofGrown b3)).set (o + 11) (.int .i64 σ);have k7 : (w3.setCell ⟨b,o + 11,none⟩ (.int .i64 σ)).cell? ⟨b,o + 10,none⟩ = some (.int .u64 u):=i4.c_ce)
  | (go_at_call 138;refine (cc _).mono ?_;rintro e w5 ⟨rfl,b5⟩;have i6:=(i4.grown b5).grown (grow1 _ (.cells #[.int .i64 z,.bool true,.int .i64 vr] 185));have m6:=(m4.below b5).alloc (.cells #[.int .i64 z,.bool true,.int .i64 vr] 185);have o6:=(o4.trans (Only.ofGrown b5)).alloc (.cells #[.int .i64 z,.bool true,.int .i64 vr] 185);have q6:=(q4.grown b5).grown (grow1 _ (.cells #[.int .i64 z,.bool true,.int .i64 vr] 185));have c6:=At.new w5 185 [.int .i64 z,.bool true,.int .i64 vr];have z0:=c6.at0 0 rfl;have z1:=c6.at0 1 rfl;have z2:=c6.at0 2 rfl)
  | (go_at_call 155;refine (areads_any i6 z true vr).mono ?_;rintro e w7 ⟨rfl,b7⟩;rw [show (decide (({ a with ce:=u,ld:=σ } : CV).kd = 1) || ({ a with ce:=u,ld:=σ } : CV).oth z) = false from HR.out];have i7:=i6.grown b7;have m7:=m6.below b7;have o7:=o6.trans (Only.ofGrown b7);have q7:=q6.grown b7;have c7:=c6.grown b7;have t0:=q7.at0 0 rfl;have t3:=q7.at0 3 rfl;have t1:=c7.at0 1 rfl;have t2:=c7.at0 2 rfl;have k0:=i7.c_nx;have lf:=i7.fz))
 go_end0
 exact ⟨rfl,_,_,_,m7.setIn hb _ _,o7.set _ _,i7.set_nx 6,(s2.set (by omega) _).set (by omega) _,rfl,rfl⟩
end Go.Proofs.YtlolfmoolgenpaaGreat

namespace Go.Proofs.YtlolfmoolgenpaaGreat
open Go.RowKit
set_option maxRecDepth 20000
def phLd (L : Loc) (s s' : Mm) : Nat -> World -> Prop
 | 0,w=>MemAt w L s
 | _,w=>MemAt w L s'
theorem phLd_grown {L : Loc} {s s' : Mm} (x y : World) (p : Nat) (g : Grown x y) (h : phLd L s s' p x) : phLd L s s' p y:=by
 match p,h with
 | 0,h=>exact MemAt.below h g
 | p + 1,h=>exact MemAt.below h g
set_option maxHeartbeats 1000000 in
theorem acheck_dead {w : World} {L : Loc} {s : Mm} {b o : Nat} {T : TypeId} {cs : Array Value} {t n k m : Nat} {g p r : Int} {a : CV} (h : MemAt w L s) (hb : ¬ L.has b) (hi : AcAt w b o T cs a) (who : Int) (hG : Good t n k m g p r) {x : Nat} {G : Int} (hx : x < n) (hn : (6 + t + x * 2) < s.n) {v st : Int} {A : Nat} {Gs V : Int} (hv : s.wd (6 + t + x * 2) = v) (hs : SlotIs v st A Gs V) (hl : (lifeB st && Gs == G) = false) {z vr : Int} {fz : Bool} (hc : CellIs a.ce z fz vr) {σ : Nat} (hσ : wrap64 (s.steps + 1) = σ) :
 Calls Tryz.prog 150 #[.pointer (some ⟨b,o,none⟩),.agg #[.int .i64 t,.int .i64 n,.int .i64 k,.int .i64 m,.int .i64 g,.int .i64 p,.int .i64 r,.pointer (some ⟨L.p,0,none⟩),.int .i64 who],.agg #[.int .i64 x,.int .i64 G]] w fun e w'=>e = .returned (.tuple #[]) /\ Cact L b o T cs w w' (fun s' a'=>s' = ((s.by who).step (6 + t + x * 2) (s.wd (6 + t + x * 2))) /\ a' = { a with nx:=7,E:=3,H:=0,V:=0,St:=σ }):=by
 have HU : Hid (s.wd (6 + t + x * 2) = v):=hv
 have sw:=hs.call
 have cc:=hc.call
 have hs1:=hG.s1
 have dl:=fun w=>dlive_any st A Gs V x G w
 rw [hl] at dl
 have HS : Hid ((((s.by who).step (6 + t + x * 2) (s.wd (6 + t + x * 2)))).steps = σ):=hσ
 clear hσ
 clear hv hs hl hc
 have hbv : ¬ L.has w.heap.size:=fun hh=>by have:=h.lt _ hh;omega
 have hbb : ¬ w.heap.size = b:=fun hh=>by have:=hi.lt;omega
 have hbv1 : ¬ L.has (w.heap.size + 1):=fun hh=>by have:=h.lt _ hh;omega
 have hbb1 : ¬ w.heap.size + 1 = b:=fun hh=>by have:=hi.lt;omega
 go_enter Tryz.func150,Tryz.ntmps150
 go_wp2
 refine wp_over (fun W=>MemAt W L s /\ AcAt W b o T cs a /\ BoxV W w.heap.size t n k m g p r L.p who /\ At W (w.heap.size + 1) 0 154 #[.int .i64 x,.int .i64 G] [.int .i64 x,.int .i64 G] /\ Only (L.and b) w W) ⟨(h.alloc _).alloc _,(hi.grown (grow1 _ _)).grown (grow1 _ _),BoxV.newB _,At.new2 _ _ _ _,((Only.refl _ _).alloc _).alloc _⟩ ?_
 rintro W ⟨m1,i1,v1,x1,o1⟩
 obtain ⟨Sz,hSz⟩ : ∃ Sz,W.heap.size = Sz:=⟨_,rfl⟩
 have hLS : ∀ X,L.has X -> X < Sz:=fun X hh=>by have:=m1.lt X hh;omega
 refine wp_region_phase_tail (Only L.has) Grown (phLd L s ((s.by who).step (6 + t + x * 2) (s.wd (6 + t + x * 2)))) 9 [6] [.val (.agg #[.int .i64 t,.int .i64 n,.int .i64 k,.int .i64 m,.int .i64 g,.int .i64 p,.int .i64 r,.pointer (some ⟨L.p,0,none⟩),.int .i64 who]),.val (.pointer (some ⟨w.heap.size,0,none⟩)),.val (.agg #[.int .i64 t,.int .i64 n,.int .i64 k,.int .i64 m,.int .i64 g,.int .i64 p,.int .i64 r]),.val (.pointer (some ⟨w.heap.size + 1,0,none⟩)),.val (.int .i64 (x : Nat)),.val (.int .i64 (((6 + t + x * 2) : Nat) : Int)),.val (.int .u64 v),.val (.agg #[.int .i64 st,.int .i64 A,.int .i64 Gs,.int .i64 V]),.that (fun w' v=>∃ X,v = .pointer (some ⟨X,0,none⟩) /\ Sz <= X /\ At w' X 0 87 #[.int .i64 0,.int .i64 0,.int .i64 0,.int .i64 0] [.int .i64 0,.int .i64 0,.int .i64 0,.int .i64 0]) ?_]
  (by kernel_rfl) (Only.refl _) (fun _ _ _ h k=>h.trans k) (fun x y h=>Only.ofGrown h) phLd_grown m1.drew (by decide) (by kernel_rfl) (by kernel_rfl) (by kernel_rfl) (by kernel_rfl) (by kernel_rfl) (by kernel_rfl) (by kernel_rfl) (by kernel_rfl) ?_
 · rintro x1 y1 v hg ⟨X,hv,hb,hr⟩
   exact ⟨X,hv,hb,hr.only hg (fun hh=>by have:=hLS _ hh;omega)⟩
 simp only [List.take_succ_cons,List.take_zero,phaseAll,Act.put,List.setIfInBounds_toArray,List.set_cons_zero,List.set_cons_succ]
 refine ⟨?_,?_,?_,?_,?_,?_,?_,?_,?_,?_⟩
 · intro w' hR _
   apply ol
   obtain ⟨y0,y1,y2,y3,y4,y5,y6,y7,y8⟩:=(v1.grown ((Below.refl _ _).drew)).only hR hbv
   go_simp
   exact gl
 · intros;apply ol;go_simp;exact gl
 · intro w' hR _
   apply ol
   obtain ⟨y0,y1,y2,y3,y4,y5,y6,y7,y8⟩:=(v1.grown ((Below.refl _ _).drew)).only hR hbv
   go_simp
   exact gl
 · intros;apply ol;go_simp;exact gl
 · intro w' hR _
   apply ol
   have z:=(x1.drew.only hR hbv1).at0 0 rfl
   go_simp
   exact gl
 · intro w' hR _
   apply ol
   go_simp
   refine (lslot_any _ _ _ _ _ _ _ (x : Int) _ hG.arena (by omega) (by omega)).mono ?_
   rintro e w'' ⟨rfl,b9⟩
   exact ⟨_,rfl,b9,congrArg (Value.int .i64) (by omega)⟩
 · intro w' hR _ hP
   apply ol
   have hP' : MemAt w' L s:=hP
   go_simp
   refine (eload_in hP' _ _ _ _ _ _ _ _ (6 + t + x * 2) hn).mono ?_
   rintro e w'' ⟨rfl,m2,o2⟩
   exact ⟨_,rfl,⟨o2,m2⟩,by simp [Want.pred,HU.out]⟩
 · intro w' hR _
   apply ol
   go_simp
   refine (sw _).mono ?_
   rintro e w'' ⟨rfl,b9⟩
   exact ⟨_,rfl,b9,rfl⟩
 · intro w' hR _
   apply ol
   have hzz : Sz <= w'.heap.size:=by have:=hR.size;have e : W.drew.heap.size = W.heap.size:=rfl;omega
   have qq:=At.new w' 87 [.int .i64 0,.int .i64 0,.int .i64 0,.int .i64 0]
   go_simp
   exact ⟨grow_alloc (Below.refl _ _) _,_,rfl,hzz,qq⟩
 intro vX w8 hR hP hf
 obtain ⟨S,rfl,hXS,q8⟩:=hf.1
 have m8 : MemAt w8 L ((s.by who).step (6 + t + x * 2) (s.wd (6 + t + x * 2))):=hP
 have q0:=q8.at0 0 rfl
 have q1:=q8.at0 1 rfl
 have q2:=q8.at0 2 rfl
 have q3:=q8.at0 3 rfl
 have qf:=q8.fz
 have lS : ¬ L.has S:=fun hh=>by have:=hLS _ hh;omega
 have bS : S ≠ b:=by have:=i1.lt;omega
 have eS : ¬ w.heap.size = S:=by have:=x1.lt;omega
 have xS : w.heap.size + 1 ≠ S:=by have:=x1.lt;omega
 have hSw : w.heap.size <= S:=by have:=x1.lt;omega
 have m9:=((((m8.setIn lS 0 (.int .i64 st)).setIn lS 1 (.int .i64 A)).setIn lS 2 (.int .i64 Gs)).setIn lS 3 (.int .i64 V))
 have v9:=((((((v1.grown ((Below.refl _ _).drew)).only hR hbv).setIn eS 0 (.int .i64 st)).setIn eS 1 (.int .i64 A)).setIn eS 2 (.int .i64 Gs)).setIn eS 3 (.int .i64 V))
 have x9:=(((((x1.drew.only hR hbv1).other xS 0 (.int .i64 st)).other xS 1 (.int .i64 A)).other xS 2 (.int .i64 Gs)).other xS 3 (.int .i64 V))
 have i9:=(((((i1.drew.only hR hb).other bS.symm 0 (.int .i64 st)).other bS.symm 1 (.int .i64 A)).other bS.symm 2 (.int .i64 Gs)).other bS.symm 3 (.int .i64 V))
 have c9:=((((q8.put0 0 (.int .i64 st)).put0 1 (.int .i64 A)).put0 2 (.int .i64 Gs)).put0 3 (.int .i64 V))
 have o9:=(((((o1.drew.trans (hR.andL (b:=b))).setCell (a:=⟨S,0,none⟩) (fun hlt=>by simp only at hlt;omega) (.int .i64 st)).setCell (a:=⟨S,1,none⟩) (fun hlt=>by simp only at hlt;omega) (.int .i64 A)).setCell (a:=⟨S,2,none⟩) (fun hlt=>by simp only at hlt;omega) (.int .i64 Gs)).setCell (a:=⟨S,3,none⟩) (fun hlt=>by simp only at hlt;omega) (.int .i64 V))
 clear hf hR hXS hSz m1 v1 x1 i1 o1 q8 m8 hP hLS
 simp only [List.drop_succ_cons,List.drop_zero]
 go_step
 go_step
 (first | go_values | go_skip | go_guarded | go_step | go_upon | go_in | go_back)
 (first | go_values | go_skip | go_guarded | go_step | go_upon | go_in | go_back)
 (first | go_values | go_skip | go_guarded | go_step | go_upon | go_in | go_back)
 (first | go_values | go_skip | go_guarded | go_step | go_upon | go_in | go_back)
 (first | go_values | go_skip | go_guarded | go_step | go_upon | go_in | go_back)
 refine wp_over (fun W=>MemAt W L ((s.by who).step (6 + t + x * 2) (s.wd (6 + t + x * 2))) /\ AcAt W b o T cs a /\ BoxV W w.heap.size t n k m g p r L.p who /\ At W (w.heap.size + 1) 0 154 #[.int .i64 x,.int .i64 G] [.int .i64 x,.int .i64 G] /\ At W S 0 87 _ [.int .i64 st,.int .i64 A,.int .i64 Gs,.int .i64 V] /\ Only (L.and b) w W) ⟨m9,i9,v9,x9,c9,o9⟩ ?_
 clear m9 i9 v9 x9 c9 o9 q0 q1 q2 q3 qf
 rintro W ⟨m9,i9,v9,x9,c9,o9⟩
 have k10:=i9.c_ce
 go_wp2_with (first
  | (go_at_call 138;refine (cc _).mono ?_;rintro e w3 ⟨rfl,b3⟩;have m1:=(m9.below b3).alloc (.cells #[.int .i64 z,.bool fz,.int .i64 vr] 185);have i1:=(i9.grown b3).grown (grow1 _ (.cells #[.int .i64 z,.bool fz,.int .i64 vr] 185));have v1:=(v9.grown b3).grown (grow1 _ (.cells #[.int .i64 z,.bool fz,.int .i64 vr] 185));have x1:=(x9.grown b3).grown (grow1 _ (.cells #[.int .i64 z,.bool fz,.int .i64 vr] 185));have q1:=(c9.grown b3).grown (grow1 _ (.cells #[.int .i64 z,.bool fz,.int .i64 vr] 185));have c1:=At.new w3 185 [.int .i64 z,.bool fz,.int .i64 vr];have o1:=(o9.trans (Only.ofGrown b3)).alloc (.cells #[.int .i64 z,.bool fz,.int .i64 vr] 185);obtain ⟨g0,g1,g2,g3,g4,g5,g6,g7,g8⟩:=id v1;have t0:=q1.at0 0 rfl;have t1:=q1.at0 1 rfl;have t2:=q1.at0 2 rfl;have t3:=q1.at0 3 rfl;have u0:=x1.at0 0 rfl;have u1:=x1.at0 1 rfl)
  | (go_at_call 127;refine (dl _).mono ?_;rintro e w4 ⟨rfl,b4⟩;have i4:=i1.grown b4;have m4:=m1.below b4;have v4:=v1.grown b4;have o4:=o1.trans (Only.ofGrown b4);have q4:=q1.grown b4;have c4:=c1.grown b4;obtain ⟨e0,e1,e2,e3,e4,e5,e6,e7,e8⟩:=id v4)
  | (go_at_call 17;refine (now_any m4 _ _ _ _ _ _ _ _ σ HS.out).mono ?_;rintro e w8 ⟨rfl,b8⟩)
  | (go_at_call 144;refine (aend (m4.below b8) hb (i4.grown b8) 3 0 σ).mono ?_;rintro e w9 ⟨rfl,s9,cs9,a9,m9,o9,i9,q9,rfl,rfl⟩))
 go_end0
 exact ⟨rfl,_,_,_,m9,(o4.trans (Only.ofGrown b8)).trans o9,i9,q9,rfl,rfl⟩
set_option maxHeartbeats 1000000 in
theorem acheck_else {w : World} {L : Loc} {s : Mm} {b o : Nat} {T : TypeId} {cs : Array Value} {t n k m : Nat} {g p r : Int} {a : CV} (h : MemAt w L s) (hb : ¬ L.has b) (hi : AcAt w b o T cs a) (who : Int) (hG : Good t n k m g p r) {x : Nat} {G : Int} (hx : x < n) (hn : (6 + t + x * 2) < s.n) {v st : Int} {A : Nat} {Gs V : Int} (hv : s.wd (6 + t + x * 2) = v) (hs : SlotIs v st A Gs V) (hl : (lifeB st && Gs == G) = true) {z vr : Int} {fz : Bool} (hc : CellIs a.ce z fz vr) {st0 A0 G0 V0 : Int} (hs0 : SlotIs a.se st0 A0 G0 V0) (hne : ¬ (A : Int) = A0) :
 Calls Tryz.prog 150 #[.pointer (some ⟨b,o,none⟩),.agg #[.int .i64 t,.int .i64 n,.int .i64 k,.int .i64 m,.int .i64 g,.int .i64 p,.int .i64 r,.pointer (some ⟨L.p,0,none⟩),.int .i64 who],.agg #[.int .i64 x,.int .i64 G]] w fun e w'=>e = .returned (.tuple #[]) /\ Cact L b o T cs w w' (fun s' a'=>s' = ((s.by who).step (6 + t + x * 2) (s.wd (6 + t + x * 2))) /\ a' = { a with nx:=0 }):=by
 have HU : Hid (s.wd (6 + t + x * 2) = v):=hv
 have sw:=hs.call
 have cc:=hc.call
 have hs1:=hG.s1
 have dl:=fun w=>dlive_any st A Gs V x G w
 rw [hl] at dl
 have sl0:=hs0.call
 have ff : ∀ (a1 a2 a3 a4 : Value) (w : World),(Instr.field 87 (.agg #[a1,a2,a3,a4]) 1).run Tryz.prog w = .ok a2 w:=fun a1 a2 a3 a4 w=>by kernel_rfl
 clear hs0
 clear hv hs hl hc
 have hbv : ¬ L.has w.heap.size:=fun hh=>by have:=h.lt _ hh;omega
 have hbb : ¬ w.heap.size = b:=fun hh=>by have:=hi.lt;omega
 have hbv1 : ¬ L.has (w.heap.size + 1):=fun hh=>by have:=h.lt _ hh;omega
 have hbb1 : ¬ w.heap.size + 1 = b:=fun hh=>by have:=hi.lt;omega
 go_enter Tryz.func150,Tryz.ntmps150
 go_wp2
 refine wp_over (fun W=>MemAt W L s /\ AcAt W b o T cs a /\ BoxV W w.heap.size t n k m g p r L.p who /\ At W (w.heap.size + 1) 0 154 #[.int .i64 x,.int .i64 G] [.int .i64 x,.int .i64 G] /\ Only (L.and b) w W) ⟨(h.alloc _).alloc _,(hi.grown (grow1 _ _)).grown (grow1 _ _),BoxV.newB _,At.new2 _ _ _ _,((Only.refl _ _).alloc _).alloc _⟩ ?_
 rintro W ⟨m1,i1,v1,x1,o1⟩
 obtain ⟨Sz,hSz⟩ : ∃ Sz,W.heap.size = Sz:=⟨_,rfl⟩
 have hLS : ∀ X,L.has X -> X < Sz:=fun X hh=>by have:=m1.lt X hh;omega
 refine wp_region_phase_tail (Only L.has) Grown (phLd L s ((s.by who).step (6 + t + x * 2) (s.wd (6 + t + x * 2)))) 9 [6] [.val (.agg #[.int .i64 t,.int .i64 n,.int .i64 k,.int .i64 m,.int .i64 g,.int .i64 p,.int .i64 r,.pointer (some ⟨L.p,0,none⟩),.int .i64 who]),.val (.pointer (some ⟨w.heap.size,0,none⟩)),.val (.agg #[.int .i64 t,.int .i64 n,.int .i64 k,.int .i64 m,.int .i64 g,.int .i64 p,.int .i64 r]),.val (.pointer (some ⟨w.heap.size + 1,0,none⟩)),.val (.int .i64 (x : Nat)),.val (.int .i64 (((6 + t + x * 2) : Nat) : Int)),.val (.int .u64 v),.val (.agg #[.int .i64 st,.int .i64 A,.int .i64 Gs,.int .i64 V]),.that (fun w' v=>∃ X,v = .pointer (some ⟨X,0,none⟩) /\ Sz <= X /\ At w' X 0 87 #[.int .i64 0,.int .i64 0,.int .i64 0,.int .i64 0] [.int .i64 0,.int .i64 0,.int .i64 0,.int .i64 0]) ?_]
  (by kernel_rfl) (Only.refl _) (fun _ _ _ h k=>h.trans k) (fun x y h=>Only.ofGrown h) phLd_grown m1.drew (by decide) (by kernel_rfl) (by kernel_rfl) (by kernel_rfl) (by kernel_rfl) (by kernel_rfl) (by kernel_rfl) (by kernel_rfl) (by kernel_rfl) ?_
 · rintro x1 y1 v hg ⟨X,hv,hb,hr⟩
   exact ⟨X,hv,hb,hr.only hg (fun hh=>by have:=hLS _ hh;omega)⟩
 simp only [List.take_succ_cons,List.take_zero,phaseAll,Act.put,List.setIfInBounds_toArray,List.set_cons_zero,List.set_cons_succ]
 refine ⟨?_,?_,?_,?_,?_,?_,?_,?_,?_,?_⟩
 · intro w' hR _
   apply ol
   obtain ⟨y0,y1,y2,y3,y4,y5,y6,y7,y8⟩:=(v1.grown ((Below.refl _ _).drew)).only hR hbv
   go_simp
   exact gl
 · intros;apply ol;go_simp;exact gl
 · intro w' hR _
   apply ol
   obtain ⟨y0,y1,y2,y3,y4,y5,y6,y7,y8⟩:=(v1.grown ((Below.refl _ _).drew)).only hR hbv
   go_simp
   exact gl
 · intros;apply ol;go_simp;exact gl
 · intro w' hR _
   apply ol
   have z:=(x1.drew.only hR hbv1).at0 0 rfl
   go_simp
   exact gl
 · intro w' hR _
   apply ol
   go_simp
   refine (lslot_any _ _ _ _ _ _ _ (x : Int) _ hG.arena (by omega) (by omega)).mono ?_
   rintro e w'' ⟨rfl,b9⟩
   exact ⟨_,rfl,b9,congrArg (Value.int .i64) (by omega)⟩
 · intro w' hR _ hP
   apply ol
   have hP' : MemAt w' L s:=hP
   go_simp
   refine (eload_in hP' _ _ _ _ _ _ _ _ (6 + t + x * 2) hn).mono ?_
   rintro e w'' ⟨rfl,m2,o2⟩
   exact ⟨_,rfl,⟨o2,m2⟩,by simp [Want.pred,HU.out]⟩
 · intro w' hR _
   apply ol
   go_simp
   refine (sw _).mono ?_
   rintro e w'' ⟨rfl,b9⟩
   exact ⟨_,rfl,b9,rfl⟩
 · intro w' hR _
   apply ol
   have hzz : Sz <= w'.heap.size:=by have:=hR.size;have e : W.drew.heap.size = W.heap.size:=rfl;omega
   have qq:=At.new w' 87 [.int .i64 0,.int .i64 0,.int .i64 0,.int .i64 0]
   go_simp
   exact ⟨grow_alloc (Below.refl _ _) _,_,rfl,hzz,qq⟩
 intro vX w8 hR hP hf
 obtain ⟨S,rfl,hXS,q8⟩:=hf.1
 have m8 : MemAt w8 L ((s.by who).step (6 + t + x * 2) (s.wd (6 + t + x * 2))):=hP
 have q0:=q8.at0 0 rfl
 have q1:=q8.at0 1 rfl
 have q2:=q8.at0 2 rfl
 have q3:=q8.at0 3 rfl
 have qf:=q8.fz
 have lS : ¬ L.has S:=fun hh=>by have:=hLS _ hh;omega
 have bS : S ≠ b:=by have:=i1.lt;omega
 have eS : ¬ w.heap.size = S:=by have:=x1.lt;omega
 have xS : w.heap.size + 1 ≠ S:=by have:=x1.lt;omega
 have hSw : w.heap.size <= S:=by have:=x1.lt;omega
 have m9:=((((m8.setIn lS 0 (.int .i64 st)).setIn lS 1 (.int .i64 A)).setIn lS 2 (.int .i64 Gs)).setIn lS 3 (.int .i64 V))
 have v9:=((((((v1.grown ((Below.refl _ _).drew)).only hR hbv).setIn eS 0 (.int .i64 st)).setIn eS 1 (.int .i64 A)).setIn eS 2 (.int .i64 Gs)).setIn eS 3 (.int .i64 V))
 have x9:=(((((x1.drew.only hR hbv1).other xS 0 (.int .i64 st)).other xS 1 (.int .i64 A)).other xS 2 (.int .i64 Gs)).other xS 3 (.int .i64 V))
 have i9:=(((((i1.drew.only hR hb).other bS.symm 0 (.int .i64 st)).other bS.symm 1 (.int .i64 A)).other bS.symm 2 (.int .i64 Gs)).other bS.symm 3 (.int .i64 V))
 have c9:=((((q8.put0 0 (.int .i64 st)).put0 1 (.int .i64 A)).put0 2 (.int .i64 Gs)).put0 3 (.int .i64 V))
 have o9:=(((((o1.drew.trans (hR.andL (b:=b))).setCell (a:=⟨S,0,none⟩) (fun hlt=>by simp only at hlt;omega) (.int .i64 st)).setCell (a:=⟨S,1,none⟩) (fun hlt=>by simp only at hlt;omega) (.int .i64 A)).setCell (a:=⟨S,2,none⟩) (fun hlt=>by simp only at hlt;omega) (.int .i64 Gs)).setCell (a:=⟨S,3,none⟩) (fun hlt=>by simp only at hlt;omega) (.int .i64 V))
 clear hf hR hXS hSz m1 v1 x1 i1 o1 q8 m8 hP hLS
 simp only [List.drop_succ_cons,List.drop_zero]
 go_step
 go_step
 (first | go_values | go_skip | go_guarded | go_step | go_upon | go_in | go_back)
 (first | go_values | go_skip | go_guarded | go_step | go_upon | go_in | go_back)
 (first | go_values | go_skip | go_guarded | go_step | go_upon | go_in | go_back)
 (first | go_values | go_skip | go_guarded | go_step | go_upon | go_in | go_back)
 (first | go_values | go_skip | go_guarded | go_step | go_upon | go_in | go_back)
 refine wp_over (fun W=>MemAt W L ((s.by who).step (6 + t + x * 2) (s.wd (6 + t + x * 2))) /\ AcAt W b o T cs a /\ BoxV W w.heap.size t n k m g p r L.p who /\ At W (w.heap.size + 1) 0 154 #[.int .i64 x,.int .i64 G] [.int .i64 x,.int .i64 G] /\ At W S 0 87 _ [.int .i64 st,.int .i64 A,.int .i64 Gs,.int .i64 V] /\ Only (L.and b) w W) ⟨m9,i9,v9,x9,c9,o9⟩ ?_
 clear m9 i9 v9 x9 c9 o9 q0 q1 q2 q3 qf
 rintro W ⟨m9,i9,v9,x9,c9,o9⟩
 have k10:=i9.c_ce
 go_wp2_with (first
  | (go_at_call 138;refine (cc _).mono ?_;rintro e w3 ⟨rfl,b3⟩;have m1:=(m9.below b3).alloc (.cells #[.int .i64 z,.bool fz,.int .i64 vr] 185);have i1:=(i9.grown b3).grown (grow1 _ (.cells #[.int .i64 z,.bool fz,.int .i64 vr] 185));have v1:=(v9.grown b3).grown (grow1 _ (.cells #[.int .i64 z,.bool fz,.int .i64 vr] 185));have x1:=(x9.grown b3).grown (grow1 _ (.cells #[.int .i64 z,.bool fz,.int .i64 vr] 185));have q1:=(c9.grown b3).grown (grow1 _ (.cells #[.int .i64 z,.bool fz,.int .i64 vr] 185));have c1:=At.new w3 185 [.int .i64 z,.bool fz,.int .i64 vr];have o1:=(o9.trans (Only.ofGrown b3)).alloc (.cells #[.int .i64 z,.bool fz,.int .i64 vr] 185);obtain ⟨g0,g1,g2,g3,g4,g5,g6,g7,g8⟩:=id v1;have t0:=q1.at0 0 rfl;have t1:=q1.at0 1 rfl;have t2:=q1.at0 2 rfl;have t3:=q1.at0 3 rfl;have u0:=x1.at0 0 rfl;have u1:=x1.at0 1 rfl)
  | (go_at_call 127;refine (dl _).mono ?_;rintro e w4 ⟨rfl,b4⟩;have i4:=i1.grown b4;have m4:=m1.below b4;have v4:=v1.grown b4;have o4:=o1.trans (Only.ofGrown b4);have q4:=q1.grown b4;have c4:=c1.grown b4;obtain ⟨e0,e1,e2,e3,e4,e5,e6,e7,e8⟩:=id v4))
 refine wp_over (fun W=>MemAt W L ((s.by who).step (6 + t + x * 2) (s.wd (6 + t + x * 2))) /\ AcAt W b o T cs a /\ At W S 0 87 _ [.int .i64 st,.int .i64 A,.int .i64 Gs,.int .i64 V] /\ At W w3.heap.size 0 185 _ [.int .i64 z,.bool fz,.int .i64 vr] /\ Only (L.and b) w W) ⟨m4,i4,q4,c4,o4⟩ ?_
 clear m9 v9 x9 i9 c9 o9 k10 b3 sw cc m1 i1 v1 x1 q1 c1 o1 m4 i4 v4 q4 c4 o4 b4 t0 t1 t2 t3 u0 u1 g0 e0 g1 e1 g2 e2 g3 e3 g4 e4 g5 e5 g6 e6 g7 e7 g8 e8
 rintro W ⟨m1,i1,q1,c1,o1⟩
 refine wp_region_rely Grown [.val (.pointer (some ⟨S,1,none⟩)),.val (.int .i64 A),.val (.pointer (some ⟨b,o,none⟩)),.val (.pointer (some ⟨b,o,none⟩)),.val (.pointer (some ⟨b,o + 7,none⟩)),.val (.int .u64 a.se),.val (.agg #[.int .i64 st0,.int .i64 A0,.int .i64 G0,.int .i64 V0]),.val (.int .i64 A0),.val (.bool true),.val (.bool true)] (by kernel_rfl) Grown.refl Grown.trans (by kernel_rfl) (by kernel_rfl) (by kernel_rfl) ?_
 simp only [relyAll,Act.put,List.setIfInBounds_toArray,List.set_cons_zero,List.set_cons_succ]
 refine ⟨?_,?_,?_,?_,?_,?_,?_,?_,?_,?_,?_⟩
 · intros;apply ol;go_simp;exact gl
 · intro w' hg _
   apply ol
   have z:=(q1.drew.grown hg).at0 1 rfl
   go_simp
   exact gl
 · intros;apply ol;go_simp;exact gl
 · intros;apply ol;go_simp;exact gl
 · intros;apply ol;go_simp;exact gl
 · intro w' hg _
   apply ol
   have z:=(i1.drew.grown hg).c_se
   go_simp
   exact gl
 · intro w' hg _
   apply ol
   go_simp
   refine (sl0 _).mono ?_
   rintro e w'' ⟨rfl,b9⟩
   exact ⟨_,rfl,b9,rfl⟩
 · intros;apply ol;go_simp;exact gl
 · intro w' hg _
   apply ol
   go_simp
   refine ⟨Grown.refl _,?_⟩
   first
    | rfl
    | (simp [Want.pred];done)
    | (simp [Want.pred];omega)
    | exact congrArg Value.bool (by simp)
 · intros;apply ol;go_simp;exact gl
 intro w5 hg _
 have m5:=m1.drew.below hg
 have i5:=i1.drew.grown hg
 have c5:=c1.drew.grown hg
 have o5 : Only (L.and b) w w5:=o1.drew.trans (Only.ofGrown hg)
 clear hg m1 i1 q1 c1 o1
 have z0:=c5.at0 0 rfl
 have z1:=c5.at0 1 rfl
 have z2:=c5.at0 2 rfl
 have k0:=i5.c_nx
 have kf:=i5.fz
 go_wp2
 go_end0
 exact ⟨rfl,_,_,_,m5.setIn hb _ _,o5.set _ _,i5.set_nx 0,Same.refl.set (by omega) _,rfl,rfl⟩
set_option maxHeartbeats 1000000 in
theorem acheck_other {w : World} {L : Loc} {s : Mm} {b o : Nat} {T : TypeId} {cs : Array Value} {t n k m : Nat} {g p r : Int} {a : CV} (h : MemAt w L s) (hb : ¬ L.has b) (hi : AcAt w b o T cs a) (who : Int) (hG : Good t n k m g p r) {x : Nat} {G : Int} (hx : x < n) (hn : (6 + t + x * 2) < s.n) {v st : Int} {A : Nat} {Gs V : Int} (hv : s.wd (6 + t + x * 2) = v) (hs : SlotIs v st A Gs V) (hl : (lifeB st && Gs == G) = true) {z vr : Int} {fz : Bool} (hc : CellIs a.ce z fz vr) {st0 A0 G0 V0 : Int} (hs0 : SlotIs a.se st0 A0 G0 V0) (heq : (A : Int) = A0) (ho : a.oth z = true) :
 Calls Tryz.prog 150 #[.pointer (some ⟨b,o,none⟩),.agg #[.int .i64 t,.int .i64 n,.int .i64 k,.int .i64 m,.int .i64 g,.int .i64 p,.int .i64 r,.pointer (some ⟨L.p,0,none⟩),.int .i64 who],.agg #[.int .i64 x,.int .i64 G]] w fun e w'=>e = .returned (.tuple #[]) /\ Cact L b o T cs w w' (fun s' a'=>s' = ((s.by who).step (6 + t + x * 2) (s.wd (6 + t + x * 2))) /\ a' = { a with nx:=7,E:=8,H:=0,V:=z,St:=a.ld }):=by
 have HU : Hid (s.wd (6 + t + x * 2) = v):=hv
 have sw:=hs.call
 have cc:=hc.call
 have hs1:=hG.s1
 have dl:=fun w=>dlive_any st A Gs V x G w
 rw [hl] at dl
 subst heq
 have sl0:=hs0.call
 have ff : ∀ (a1 a2 a3 a4 : Value) (w : World),(Instr.field 87 (.agg #[a1,a2,a3,a4]) 1).run Tryz.prog w = .ok a2 w:=fun a1 a2 a3 a4 w=>by kernel_rfl
 clear hs0
 have HO : Hid (a.oth z = true):=ho
 clear ho
 clear hv hs hl hc
 have hbv : ¬ L.has w.heap.size:=fun hh=>by have:=h.lt _ hh;omega
 have hbb : ¬ w.heap.size = b:=fun hh=>by have:=hi.lt;omega
 have hbv1 : ¬ L.has (w.heap.size + 1):=fun hh=>by have:=h.lt _ hh;omega
 have hbb1 : ¬ w.heap.size + 1 = b:=fun hh=>by have:=hi.lt;omega
 go_enter Tryz.func150,Tryz.ntmps150
 go_wp2
 refine wp_over (fun W=>MemAt W L s /\ AcAt W b o T cs a /\ BoxV W w.heap.size t n k m g p r L.p who /\ At W (w.heap.size + 1) 0 154 #[.int .i64 x,.int .i64 G] [.int .i64 x,.int .i64 G] /\ Only (L.and b) w W) ⟨(h.alloc _).alloc _,(hi.grown (grow1 _ _)).grown (grow1 _ _),BoxV.newB _,At.new2 _ _ _ _,((Only.refl _ _).alloc _).alloc _⟩ ?_
 rintro W ⟨m1,i1,v1,x1,o1⟩
 obtain ⟨Sz,hSz⟩ : ∃ Sz,W.heap.size = Sz:=⟨_,rfl⟩
 have hLS : ∀ X,L.has X -> X < Sz:=fun X hh=>by have:=m1.lt X hh;omega
 refine wp_region_phase_tail (Only L.has) Grown (phLd L s ((s.by who).step (6 + t + x * 2) (s.wd (6 + t + x * 2)))) 9 [6] [.val (.agg #[.int .i64 t,.int .i64 n,.int .i64 k,.int .i64 m,.int .i64 g,.int .i64 p,.int .i64 r,.pointer (some ⟨L.p,0,none⟩),.int .i64 who]),.val (.pointer (some ⟨w.heap.size,0,none⟩)),.val (.agg #[.int .i64 t,.int .i64 n,.int .i64 k,.int .i64 m,.int .i64 g,.int .i64 p,.int .i64 r]),.val (.pointer (some ⟨w.heap.size + 1,0,none⟩)),.val (.int .i64 (x : Nat)),.val (.int .i64 (((6 + t + x * 2) : Nat) : Int)),.val (.int .u64 v),.val (.agg #[.int .i64 st,.int .i64 A,.int .i64 Gs,.int .i64 V]),.that (fun w' v=>∃ X,v = .pointer (some ⟨X,0,none⟩) /\ Sz <= X /\ At w' X 0 87 #[.int .i64 0,.int .i64 0,.int .i64 0,.int .i64 0] [.int .i64 0,.int .i64 0,.int .i64 0,.int .i64 0]) ?_]
  (by kernel_rfl) (Only.refl _) (fun _ _ _ h k=>h.trans k) (fun x y h=>Only.ofGrown h) phLd_grown m1.drew (by decide) (by kernel_rfl) (by kernel_rfl) (by kernel_rfl) (by kernel_rfl) (by kernel_rfl) (by kernel_rfl) (by kernel_rfl) (by kernel_rfl) ?_
 · rintro x1 y1 v hg ⟨X,hv,hb,hr⟩
   exact ⟨X,hv,hb,hr.only hg (fun hh=>by have:=hLS _ hh;omega)⟩
 simp only [List.take_succ_cons,List.take_zero,phaseAll,Act.put,List.setIfInBounds_toArray,List.set_cons_zero,List.set_cons_succ]
 refine ⟨?_,?_,?_,?_,?_,?_,?_,?_,?_,?_⟩
 · intro w' hR _
   apply ol
   obtain ⟨y0,y1,y2,y3,y4,y5,y6,y7,y8⟩:=(v1.grown ((Below.refl _ _).drew)).only hR hbv
   go_simp
   exact gl
 · intros;apply ol;go_simp;exact gl
 · intro w' hR _
   apply ol
   obtain ⟨y0,y1,y2,y3,y4,y5,y6,y7,y8⟩:=(v1.grown ((Below.refl _ _).drew)).only hR hbv
   go_simp
   exact gl
 · intros;apply ol;go_simp;exact gl
 · intro w' hR _
   apply ol
   have z:=(x1.drew.only hR hbv1).at0 0 rfl
   go_simp
   exact gl
 · intro w' hR _
   apply ol
   go_simp
   refine (lslot_any _ _ _ _ _ _ _ (x : Int) _ hG.arena (by omega) (by omega)).mono ?_
   rintro e w'' ⟨rfl,b9⟩
   exact ⟨_,rfl,b9,congrArg (Value.int .i64) (by omega)⟩
 · intro w' hR _ hP
   apply ol
   have hP' : MemAt w' L s:=hP
   go_simp
   refine (eload_in hP' _ _ _ _ _ _ _ _ (6 + t + x * 2) hn).mono ?_
   rintro e w'' ⟨rfl,m2,o2⟩
   exact ⟨_,rfl,⟨o2,m2⟩,by simp [Want.pred,HU.out]⟩
 · intro w' hR _
   apply ol
   go_simp
   refine (sw _).mono ?_
   rintro e w'' ⟨rfl,b9⟩
   exact ⟨_,rfl,b9,rfl⟩
 · intro w' hR _
   apply ol
   have hzz : Sz <= w'.heap.size:=by have:=hR.size;have e : W.drew.heap.size = W.heap.size:=rfl;omega
   have qq:=At.new w' 87 [.int .i64 0,.int .i64 0,.int .i64 0,.int .i64 0]
   go_simp
   exact ⟨grow_alloc (Below.refl _ _) _,_,rfl,hzz,qq⟩
 intro vX w8 hR hP hf
 obtain ⟨S,rfl,hXS,q8⟩:=hf.1
 have m8 : MemAt w8 L ((s.by who).step (6 + t + x * 2) (s.wd (6 + t + x * 2))):=hP
 have q0:=q8.at0 0 rfl
 have q1:=q8.at0 1 rfl
 have q2:=q8.at0 2 rfl
 have q3:=q8.at0 3 rfl
 have qf:=q8.fz
 have lS : ¬ L.has S:=fun hh=>by have:=hLS _ hh;omega
 have bS : S ≠ b:=by have:=i1.lt;omega
 have eS : ¬ w.heap.size = S:=by have:=x1.lt;omega
 have xS : w.heap.size + 1 ≠ S:=by have:=x1.lt;omega
 have hSw : w.heap.size <= S:=by have:=x1.lt;omega
 have m9:=((((m8.setIn lS 0 (.int .i64 st)).setIn lS 1 (.int .i64 A)).setIn lS 2 (.int .i64 Gs)).setIn lS 3 (.int .i64 V))
 have v9:=((((((v1.grown ((Below.refl _ _).drew)).only hR hbv).setIn eS 0 (.int .i64 st)).setIn eS 1 (.int .i64 A)).setIn eS 2 (.int .i64 Gs)).setIn eS 3 (.int .i64 V))
 have x9:=(((((x1.drew.only hR hbv1).other xS 0 (.int .i64 st)).other xS 1 (.int .i64 A)).other xS 2 (.int .i64 Gs)).other xS 3 (.int .i64 V))
 have i9:=(((((i1.drew.only hR hb).other bS.symm 0 (.int .i64 st)).other bS.symm 1 (.int .i64 A)).other bS.symm 2 (.int .i64 Gs)).other bS.symm 3 (.int .i64 V))
 have c9:=((((q8.put0 0 (.int .i64 st)).put0 1 (.int .i64 A)).put0 2 (.int .i64 Gs)).put0 3 (.int .i64 V))
 have o9:=(((((o1.drew.trans (hR.andL (b:=b))).setCell (a:=⟨S,0,none⟩) (fun hlt=>by simp only at hlt;omega) (.int .i64 st)).setCell (a:=⟨S,1,none⟩) (fun hlt=>by simp only at hlt;omega) (.int .i64 A)).setCell (a:=⟨S,2,none⟩) (fun hlt=>by simp only at hlt;omega) (.int .i64 Gs)).setCell (a:=⟨S,3,none⟩) (fun hlt=>by simp only at hlt;omega) (.int .i64 V))
 clear hf hR hXS hSz m1 v1 x1 i1 o1 q8 m8 hP hLS
 simp only [List.drop_succ_cons,List.drop_zero]
 go_step
 go_step
 (first | go_values | go_skip | go_guarded | go_step | go_upon | go_in | go_back)
 (first | go_values | go_skip | go_guarded | go_step | go_upon | go_in | go_back)
 (first | go_values | go_skip | go_guarded | go_step | go_upon | go_in | go_back)
 (first | go_values | go_skip | go_guarded | go_step | go_upon | go_in | go_back)
 (first | go_values | go_skip | go_guarded | go_step | go_upon | go_in | go_back)
 refine wp_over (fun W=>MemAt W L ((s.by who).step (6 + t + x * 2) (s.wd (6 + t + x * 2))) /\ AcAt W b o T cs a /\ BoxV W w.heap.size t n k m g p r L.p who /\ At W (w.heap.size + 1) 0 154 #[.int .i64 x,.int .i64 G] [.int .i64 x,.int .i64 G] /\ At W S 0 87 _ [.int .i64 st,.int .i64 A,.int .i64 Gs,.int .i64 V] /\ Only (L.and b) w W) ⟨m9,i9,v9,x9,c9,o9⟩ ?_
 clear m9 i9 v9 x9 c9 o9 q0 q1 q2 q3 qf
 rintro W ⟨m9,i9,v9,x9,c9,o9⟩
 have k10:=i9.c_ce
 go_wp2_with (first
  | (go_at_call 138;refine (cc _).mono ?_;rintro e w3 ⟨rfl,b3⟩;have m1:=(m9.below b3).alloc (.cells #[.int .i64 z,.bool fz,.int .i64 vr] 185);have i1:=(i9.grown b3).grown (grow1 _ (.cells #[.int .i64 z,.bool fz,.int .i64 vr] 185));have v1:=(v9.grown b3).grown (grow1 _ (.cells #[.int .i64 z,.bool fz,.int .i64 vr] 185));have x1:=(x9.grown b3).grown (grow1 _ (.cells #[.int .i64 z,.bool fz,.int .i64 vr] 185));have q1:=(c9.grown b3).grown (grow1 _ (.cells #[.int .i64 z,.bool fz,.int .i64 vr] 185));have c1:=At.new w3 185 [.int .i64 z,.bool fz,.int .i64 vr];have o1:=(o9.trans (Only.ofGrown b3)).alloc (.cells #[.int .i64 z,.bool fz,.int .i64 vr] 185);obtain ⟨g0,g1,g2,g3,g4,g5,g6,g7,g8⟩:=id v1;have t0:=q1.at0 0 rfl;have t1:=q1.at0 1 rfl;have t2:=q1.at0 2 rfl;have t3:=q1.at0 3 rfl;have u0:=x1.at0 0 rfl;have u1:=x1.at0 1 rfl)
  | (go_at_call 127;refine (dl _).mono ?_;rintro e w4 ⟨rfl,b4⟩;have i4:=i1.grown b4;have m4:=m1.below b4;have v4:=v1.grown b4;have o4:=o1.trans (Only.ofGrown b4);have q4:=q1.grown b4;have c4:=c1.grown b4;obtain ⟨e0,e1,e2,e3,e4,e5,e6,e7,e8⟩:=id v4))
 refine wp_over (fun W=>MemAt W L ((s.by who).step (6 + t + x * 2) (s.wd (6 + t + x * 2))) /\ AcAt W b o T cs a /\ At W S 0 87 _ [.int .i64 st,.int .i64 A,.int .i64 Gs,.int .i64 V] /\ At W w3.heap.size 0 185 _ [.int .i64 z,.bool fz,.int .i64 vr] /\ Only (L.and b) w W) ⟨m4,i4,q4,c4,o4⟩ ?_
 clear m9 v9 x9 i9 c9 o9 k10 b3 sw cc m1 i1 v1 x1 q1 c1 o1 m4 i4 v4 q4 c4 o4 b4 t0 t1 t2 t3 u0 u1 g0 e0 g1 e1 g2 e2 g3 e3 g4 e4 g5 e5 g6 e6 g7 e7 g8 e8
 rintro W ⟨m1,i1,q1,c1,o1⟩
 refine wp_region_rely Grown [.val (.pointer (some ⟨S,1,none⟩)),.val (.int .i64 A),.val (.pointer (some ⟨b,o,none⟩)),.val (.pointer (some ⟨b,o,none⟩)),.val (.pointer (some ⟨b,o + 7,none⟩)),.val (.int .u64 a.se),.val (.agg #[.int .i64 st0,.int .i64 (A : Nat),.int .i64 G0,.int .i64 V0]),.val (.int .i64 (A : Nat)),.val (.bool false),.val (.bool false)] (by kernel_rfl) Grown.refl Grown.trans (by kernel_rfl) (by kernel_rfl) (by kernel_rfl) ?_
 simp only [relyAll,Act.put,List.setIfInBounds_toArray,List.set_cons_zero,List.set_cons_succ]
 refine ⟨?_,?_,?_,?_,?_,?_,?_,?_,?_,?_,?_⟩
 · intros;apply ol;go_simp;exact gl
 · intro w' hg _
   apply ol
   have z:=(q1.drew.grown hg).at0 1 rfl
   go_simp
   exact gl
 · intros;apply ol;go_simp;exact gl
 · intros;apply ol;go_simp;exact gl
 · intros;apply ol;go_simp;exact gl
 · intro w' hg _
   apply ol
   have z:=(i1.drew.grown hg).c_se
   go_simp
   exact gl
 · intro w' hg _
   apply ol
   go_simp
   refine (sl0 _).mono ?_
   rintro e w'' ⟨rfl,b9⟩
   exact ⟨_,rfl,b9,rfl⟩
 · intros;apply ol;go_simp;exact gl
 · intro w' hg _
   apply ol
   go_simp
   refine ⟨Grown.refl _,?_⟩
   first
    | rfl
    | (simp [Want.pred];done)
    | (simp [Want.pred];omega)
    | exact congrArg Value.bool (by simp)
 · intros;apply ol;go_simp;exact gl
 intro w5 hg _
 have m5:=m1.drew.below hg
 have i5:=i1.drew.grown hg
 have c5:=c1.drew.grown hg
 have o5 : Only (L.and b) w w5:=o1.drew.trans (Only.ofGrown hg)
 clear hg m1 i1 q1 c1 o1
 have z0:=c5.at0 0 rfl
 have z1:=c5.at0 1 rfl
 have z2:=c5.at0 2 rfl
 have k0:=i5.c_nx
 have kf:=i5.fz
 go_wp2_with (go_at_call 156;refine (aother_any i5 z fz vr).mono ?_;rintro e w6 ⟨rfl,b6⟩;rw [HO.out])
 refine wp_over (fun W=>MemAt W L ((s.by who).step (6 + t + x * 2) (s.wd (6 + t + x * 2))) /\ AcAt W b o T cs a /\ At W w3.heap.size 0 185 _ [.int .i64 z,.bool fz,.int .i64 vr] /\ Only (L.and b) w W) ⟨m5.below b6,i5.grown b6,c5.grown b6,o5.trans (Only.ofGrown b6)⟩ ?_
 clear m5 i5 c5 o5 b6 z0 z1 z2 k0 kf
 rintro W ⟨m1,i1,c1,o1⟩
 refine wp_region_rely_tail Grown 7 [.val (.pointer (some ⟨b,o,none⟩)),.val (.pointer (some ⟨w3.heap.size,0,none⟩)),.val (.int .i64 z),.val (.pointer (some ⟨b,o,none⟩)),.val (.pointer (some ⟨b,o,none⟩)),.val (.pointer (some ⟨b,o + 11,none⟩)),.val (.int .i64 a.ld)] (by kernel_rfl) Grown.refl Grown.trans (by decide) (by kernel_rfl) (by kernel_rfl) (by kernel_rfl) (by kernel_rfl) (by kernel_rfl) (by kernel_rfl) ?_
 simp only [List.take_succ_cons,List.take_zero,relyAll,Act.put,List.setIfInBounds_toArray,List.set_cons_zero,List.set_cons_succ]
 refine ⟨?_,?_,?_,?_,?_,?_,?_,?_⟩
 · intros;apply ol;go_simp;exact gl
 · intros;apply ol;go_simp;exact gl
 · intro w' hg _
   apply ol
   have z:=(c1.drew.grown hg).at0 0 rfl
   go_simp
   exact gl
 · intros;apply ol;go_simp;exact gl
 · intros;apply ol;go_simp;exact gl
 · intros;apply ol;go_simp;exact gl
 · intro w' hg _
   apply ol
   have z:=(i1.drew.grown hg).c_ld
   go_simp
   exact gl
 intro w7 hg _
 have m7:=m1.drew.below hg
 have i7:=i1.drew.grown hg
 have o7 : Only (L.and b) w w7:=o1.drew.trans (Only.ofGrown hg)
 clear hg m1 i1 c1 o1
 go_wp2_with (go_at_call 144;refine (aend m7 hb i7 8 z a.ld).mono ?_;rintro e w9 ⟨rfl,s9,cs9,a9,m9,o9,i9,q9,rfl,rfl⟩)
 go_end0
 exact ⟨rfl,_,_,_,m9,o7.trans o9,i9,q9,rfl,rfl⟩
set_option maxHeartbeats 1000000 in
theorem acheck_ok {w : World} {L : Loc} {s : Mm} {b o : Nat} {T : TypeId} {cs : Array Value} {t n k m : Nat} {g p r : Int} {a : CV} (h : MemAt w L s) (hb : ¬ L.has b) (hi : AcAt w b o T cs a) (who : Int) (hG : Good t n k m g p r) {x : Nat} {G : Int} (hx : x < n) (hn : (6 + t + x * 2) < s.n) {v st : Int} {A : Nat} {Gs V : Int} (hv : s.wd (6 + t + x * 2) = v) (hs : SlotIs v st A Gs V) (hl : (lifeB st && Gs == G) = true) {z vr : Int} {fz : Bool} (hc : CellIs a.ce z fz vr) {st0 A0 G0 V0 : Int} (hs0 : SlotIs a.se st0 A0 G0 V0) (heq : (A : Int) = A0) (ho : a.oth z = false) :
 Calls Tryz.prog 150 #[.pointer (some ⟨b,o,none⟩),.agg #[.int .i64 t,.int .i64 n,.int .i64 k,.int .i64 m,.int .i64 g,.int .i64 p,.int .i64 r,.pointer (some ⟨L.p,0,none⟩),.int .i64 who],.agg #[.int .i64 x,.int .i64 G]] w fun e w'=>e = .returned (.tuple #[]) /\ Cact L b o T cs w w' (fun s' a'=>s' = ((s.by who).step (6 + t + x * 2) (s.wd (6 + t + x * 2))) /\ a' = { a with nx:=7,E:=0,H:=0,V:=z,St:=a.ld }):=by
 have HU : Hid (s.wd (6 + t + x * 2) = v):=hv
 have sw:=hs.call
 have cc:=hc.call
 have hs1:=hG.s1
 have dl:=fun w=>dlive_any st A Gs V x G w
 rw [hl] at dl
 subst heq
 have sl0:=hs0.call
 have ff : ∀ (a1 a2 a3 a4 : Value) (w : World),(Instr.field 87 (.agg #[a1,a2,a3,a4]) 1).run Tryz.prog w = .ok a2 w:=fun a1 a2 a3 a4 w=>by kernel_rfl
 clear hs0
 have HO : Hid (a.oth z = false):=ho
 clear ho
 clear hv hs hl hc
 have hbv : ¬ L.has w.heap.size:=fun hh=>by have:=h.lt _ hh;omega
 have hbb : ¬ w.heap.size = b:=fun hh=>by have:=hi.lt;omega
 have hbv1 : ¬ L.has (w.heap.size + 1):=fun hh=>by have:=h.lt _ hh;omega
 have hbb1 : ¬ w.heap.size + 1 = b:=fun hh=>by have:=hi.lt;omega
 go_enter Tryz.func150,Tryz.ntmps150
 go_wp2
 refine wp_over (fun W=>MemAt W L s /\ AcAt W b o T cs a /\ BoxV W w.heap.size t n k m g p r L.p who /\ At W (w.heap.size + 1) 0 154 #[.int .i64 x,.int .i64 G] [.int .i64 x,.int .i64 G] /\ Only (L.and b) w W) ⟨(h.alloc _).alloc _,(hi.grown (grow1 _ _)).grown (grow1 _ _),BoxV.newB _,At.new2 _ _ _ _,((Only.refl _ _).alloc _).alloc _⟩ ?_
 rintro W ⟨m1,i1,v1,x1,o1⟩
 obtain ⟨Sz,hSz⟩ : ∃ Sz,W.heap.size = Sz:=⟨_,rfl⟩
 have hLS : ∀ X,L.has X -> X < Sz:=fun X hh=>by have:=m1.lt X hh;omega
 refine wp_region_phase_tail (Only L.has) Grown (phLd L s ((s.by who).step (6 + t + x * 2) (s.wd (6 + t + x * 2)))) 9 [6] [.val (.agg #[.int .i64 t,.int .i64 n,.int .i64 k,.int .i64 m,.int .i64 g,.int .i64 p,.int .i64 r,.pointer (some ⟨L.p,0,none⟩),.int .i64 who]),.val (.pointer (some ⟨w.heap.size,0,none⟩)),.val (.agg #[.int .i64 t,.int .i64 n,.int .i64 k,.int .i64 m,.int .i64 g,.int .i64 p,.int .i64 r]),.val (.pointer (some ⟨w.heap.size + 1,0,none⟩)),.val (.int .i64 (x : Nat)),.val (.int .i64 (((6 + t + x * 2) : Nat) : Int)),.val (.int .u64 v),.val (.agg #[.int .i64 st,.int .i64 A,.int .i64 Gs,.int .i64 V]),.that (fun w' v=>∃ X,v = .pointer (some ⟨X,0,none⟩) /\ Sz <= X /\ At w' X 0 87 #[.int .i64 0,.int .i64 0,.int .i64 0,.int .i64 0] [.int .i64 0,.int .i64 0,.int .i64 0,.int .i64 0]) ?_]
  (by kernel_rfl) (Only.refl _) (fun _ _ _ h k=>h.trans k) (fun x y h=>Only.ofGrown h) phLd_grown m1.drew (by decide) (by kernel_rfl) (by kernel_rfl) (by kernel_rfl) (by kernel_rfl) (by kernel_rfl) (by kernel_rfl) (by kernel_rfl) (by kernel_rfl) ?_
 · rintro x1 y1 v hg ⟨X,hv,hb,hr⟩
   exact ⟨X,hv,hb,hr.only hg (fun hh=>by have:=hLS _ hh;omega)⟩
 simp only [List.take_succ_cons,List.take_zero,phaseAll,Act.put,List.setIfInBounds_toArray,List.set_cons_zero,List.set_cons_succ]
 refine ⟨?_,?_,?_,?_,?_,?_,?_,?_,?_,?_⟩
 · intro w' hR _
   apply ol
   obtain ⟨y0,y1,y2,y3,y4,y5,y6,y7,y8⟩:=(v1.grown ((Below.refl _ _).drew)).only hR hbv
   go_simp
   exact gl
 · intros;apply ol;go_simp;exact gl
 · intro w' hR _
   apply ol
   obtain ⟨y0,y1,y2,y3,y4,y5,y6,y7,y8⟩:=(v1.grown ((Below.refl _ _).drew)).only hR hbv
   go_simp
   exact gl
 · intros;apply ol;go_simp;exact gl
 · intro w' hR _
   apply ol
   have z:=(x1.drew.only hR hbv1).at0 0 rfl
   go_simp
   exact gl
 · intro w' hR _
   apply ol
   go_simp
   refine (lslot_any _ _ _ _ _ _ _ (x : Int) _ hG.arena (by omega) (by omega)).mono ?_
   rintro e w'' ⟨rfl,b9⟩
   exact ⟨_,rfl,b9,congrArg (Value.int .i64) (by omega)⟩
 · intro w' hR _ hP
   apply ol
   have hP' : MemAt w' L s:=hP
   go_simp
   refine (eload_in hP' _ _ _ _ _ _ _ _ (6 + t + x * 2) hn).mono ?_
   rintro e w'' ⟨rfl,m2,o2⟩
   exact ⟨_,rfl,⟨o2,m2⟩,by simp [Want.pred,HU.out]⟩
 · intro w' hR _
   apply ol
   go_simp
   refine (sw _).mono ?_
   rintro e w'' ⟨rfl,b9⟩
   exact ⟨_,rfl,b9,rfl⟩
 · intro w' hR _
   apply ol
   have hzz : Sz <= w'.heap.size:=by have:=hR.size;have e : W.drew.heap.size = W.heap.size:=rfl;omega
   have qq:=At.new w' 87 [.int .i64 0,.int .i64 0,.int .i64 0,.int .i64 0]
   go_simp
   exact ⟨grow_alloc (Below.refl _ _) _,_,rfl,hzz,qq⟩
 intro vX w8 hR hP hf
 obtain ⟨S,rfl,hXS,q8⟩:=hf.1
 have m8 : MemAt w8 L ((s.by who).step (6 + t + x * 2) (s.wd (6 + t + x * 2))):=hP
 have q0:=q8.at0 0 rfl
 have q1:=q8.at0 1 rfl
 have q2:=q8.at0 2 rfl
 have q3:=q8.at0 3 rfl
 have qf:=q8.fz
 have lS : ¬ L.has S:=fun hh=>by have:=hLS _ hh;omega
 have bS : S ≠ b:=by have:=i1.lt;omega
 have eS : ¬ w.heap.size = S:=by have:=x1.lt;omega
 have xS : w.heap.size + 1 ≠ S:=by have:=x1.lt;omega
 have hSw : w.heap.size <= S:=by have:=x1.lt;omega
 have m9:=((((m8.setIn lS 0 (.int .i64 st)).setIn lS 1 (.int .i64 A)).setIn lS 2 (.int .i64 Gs)).setIn lS 3 (.int .i64 V))
 have v9:=((((((v1.grown ((Below.refl _ _).drew)).only hR hbv).setIn eS 0 (.int .i64 st)).setIn eS 1 (.int .i64 A)).setIn eS 2 (.int .i64 Gs)).setIn eS 3 (.int .i64 V))
 have x9:=(((((x1.drew.only hR hbv1).other xS 0 (.int .i64 st)).other xS 1 (.int .i64 A)).other xS 2 (.int .i64 Gs)).other xS 3 (.int .i64 V))
 have i9:=(((((i1.drew.only hR hb).other bS.symm 0 (.int .i64 st)).other bS.symm 1 (.int .i64 A)).other bS.symm 2 (.int .i64 Gs)).other bS.symm 3 (.int .i64 V))
 have c9:=((((q8.put0 0 (.int .i64 st)).put0 1 (.int .i64 A)).put0 2 (.int .i64 Gs)).put0 3 (.int .i64 V))
 have o9:=(((((o1.drew.trans (hR.andL (b:=b))).setCell (a:=⟨S,0,none⟩) (fun hlt=>by simp only at hlt;omega) (.int .i64 st)).setCell (a:=⟨S,1,none⟩) (fun hlt=>by simp only at hlt;omega) (.int .i64 A)).setCell (a:=⟨S,2,none⟩) (fun hlt=>by simp only at hlt;omega) (.int .i64 Gs)).setCell (a:=⟨S,3,none⟩) (fun hlt=>by simp only at hlt;omega) (.int .i64 V))
 clear hf hR hXS hSz m1 v1 x1 i1 o1 q8 m8 hP hLS
 simp only [List.drop_succ_cons,List.drop_zero]
 go_step
 go_step
 (first | go_values | go_skip | go_guarded | go_step | go_upon | go_in | go_back)
 (first | go_values | go_skip | go_guarded | go_step | go_upon | go_in | go_back)
 (first | go_values | go_skip | go_guarded | go_step | go_upon | go_in | go_back)
 (first | go_values | go_skip | go_guarded | go_step | go_upon | go_in | go_back)
 (first | go_values | go_skip | go_guarded | go_step | go_upon | go_in | go_back)
 refine wp_over (fun W=>MemAt W L ((s.by who).step (6 + t + x * 2) (s.wd (6 + t + x * 2))) /\ AcAt W b o T cs a /\ BoxV W w.heap.size t n k m g p r L.p who /\ At W (w.heap.size + 1) 0 154 #[.int .i64 x,.int .i64 G] [.int .i64 x,.int .i64 G] /\ At W S 0 87 _ [.int .i64 st,.int .i64 A,.int .i64 Gs,.int .i64 V] /\ Only (L.and b) w W) ⟨m9,i9,v9,x9,c9,o9⟩ ?_
 clear m9 i9 v9 x9 c9 o9 q0 q1 q2 q3 qf
 rintro W ⟨m9,i9,v9,x9,c9,o9⟩
 have k10:=i9.c_ce
 go_wp2_with (first
  | (go_at_call 138;refine (cc _).mono ?_;rintro e w3 ⟨rfl,b3⟩;have m1:=(m9.below b3).alloc (.cells #[.int .i64 z,.bool fz,.int .i64 vr] 185);have i1:=(i9.grown b3).grown (grow1 _ (.cells #[.int .i64 z,.bool fz,.int .i64 vr] 185));have v1:=(v9.grown b3).grown (grow1 _ (.cells #[.int .i64 z,.bool fz,.int .i64 vr] 185));have x1:=(x9.grown b3).grown (grow1 _ (.cells #[.int .i64 z,.bool fz,.int .i64 vr] 185));have q1:=(c9.grown b3).grown (grow1 _ (.cells #[.int .i64 z,.bool fz,.int .i64 vr] 185));have c1:=At.new w3 185 [.int .i64 z,.bool fz,.int .i64 vr];have o1:=(o9.trans (Only.ofGrown b3)).alloc (.cells #[.int .i64 z,.bool fz,.int .i64 vr] 185);obtain ⟨g0,g1,g2,g3,g4,g5,g6,g7,g8⟩:=id v1;have t0:=q1.at0 0 rfl;have t1:=q1.at0 1 rfl;have t2:=q1.at0 2 rfl;have t3:=q1.at0 3 rfl;have u0:=x1.at0 0 rfl;have u1:=x1.at0 1 rfl)
  | (go_at_call 127;refine (dl _).mono ?_;rintro e w4 ⟨rfl,b4⟩;have i4:=i1.grown b4;have m4:=m1.below b4;have v4:=v1.grown b4;have o4:=o1.trans (Only.ofGrown b4);have q4:=q1.grown b4;have c4:=c1.grown b4;obtain ⟨e0,e1,e2,e3,e4,e5,e6,e7,e8⟩:=id v4))
 refine wp_over (fun W=>MemAt W L ((s.by who).step (6 + t + x * 2) (s.wd (6 + t + x * 2))) /\ AcAt W b o T cs a /\ At W S 0 87 _ [.int .i64 st,.int .i64 A,.int .i64 Gs,.int .i64 V] /\ At W w3.heap.size 0 185 _ [.int .i64 z,.bool fz,.int .i64 vr] /\ Only (L.and b) w W) ⟨m4,i4,q4,c4,o4⟩ ?_
 clear m9 v9 x9 i9 c9 o9 k10 b3 sw cc m1 i1 v1 x1 q1 c1 o1 m4 i4 v4 q4 c4 o4 b4 t0 t1 t2 t3 u0 u1 g0 e0 g1 e1 g2 e2 g3 e3 g4 e4 g5 e5 g6 e6 g7 e7 g8 e8
 rintro W ⟨m1,i1,q1,c1,o1⟩
 refine wp_region_rely Grown [.val (.pointer (some ⟨S,1,none⟩)),.val (.int .i64 A),.val (.pointer (some ⟨b,o,none⟩)),.val (.pointer (some ⟨b,o,none⟩)),.val (.pointer (some ⟨b,o + 7,none⟩)),.val (.int .u64 a.se),.val (.agg #[.int .i64 st0,.int .i64 (A : Nat),.int .i64 G0,.int .i64 V0]),.val (.int .i64 (A : Nat)),.val (.bool false),.val (.bool false)] (by kernel_rfl) Grown.refl Grown.trans (by kernel_rfl) (by kernel_rfl) (by kernel_rfl) ?_
 simp only [relyAll,Act.put,List.setIfInBounds_toArray,List.set_cons_zero,List.set_cons_succ]
 refine ⟨?_,?_,?_,?_,?_,?_,?_,?_,?_,?_,?_⟩
 · intros;apply ol;go_simp;exact gl
 · intro w' hg _
   apply ol
   have z:=(q1.drew.grown hg).at0 1 rfl
   go_simp
   exact gl
 · intros;apply ol;go_simp;exact gl
 · intros;apply ol;go_simp;exact gl
 · intros;apply ol;go_simp;exact gl
 · intro w' hg _
   apply ol
   have z:=(i1.drew.grown hg).c_se
   go_simp
   exact gl
 · intro w' hg _
   apply ol
   go_simp
   refine (sl0 _).mono ?_
   rintro e w'' ⟨rfl,b9⟩
   exact ⟨_,rfl,b9,rfl⟩
 · intros;apply ol;go_simp;exact gl
 · intro w' hg _
   apply ol
   go_simp
   refine ⟨Grown.refl _,?_⟩
   first
    | rfl
    | (simp [Want.pred];done)
    | (simp [Want.pred];omega)
    | exact congrArg Value.bool (by simp)
 · intros;apply ol;go_simp;exact gl
 intro w5 hg _
 have m5:=m1.drew.below hg
 have i5:=i1.drew.grown hg
 have c5:=c1.drew.grown hg
 have o5 : Only (L.and b) w w5:=o1.drew.trans (Only.ofGrown hg)
 clear hg m1 i1 q1 c1 o1
 have z0:=c5.at0 0 rfl
 have z1:=c5.at0 1 rfl
 have z2:=c5.at0 2 rfl
 have k0:=i5.c_nx
 have kf:=i5.fz
 go_wp2_with (go_at_call 156;refine (aother_any i5 z fz vr).mono ?_;rintro e w6 ⟨rfl,b6⟩;rw [HO.out])
 refine wp_over (fun W=>MemAt W L ((s.by who).step (6 + t + x * 2) (s.wd (6 + t + x * 2))) /\ AcAt W b o T cs a /\ At W w3.heap.size 0 185 _ [.int .i64 z,.bool fz,.int .i64 vr] /\ Only (L.and b) w W) ⟨m5.below b6,i5.grown b6,c5.grown b6,o5.trans (Only.ofGrown b6)⟩ ?_
 clear m5 i5 c5 o5 b6 z0 z1 z2 k0 kf
 rintro W ⟨m1,i1,c1,o1⟩
 refine wp_region_rely_tail Grown 7 [.val (.pointer (some ⟨b,o,none⟩)),.val (.pointer (some ⟨w3.heap.size,0,none⟩)),.val (.int .i64 z),.val (.pointer (some ⟨b,o,none⟩)),.val (.pointer (some ⟨b,o,none⟩)),.val (.pointer (some ⟨b,o + 11,none⟩)),.val (.int .i64 a.ld)] (by kernel_rfl) Grown.refl Grown.trans (by decide) (by kernel_rfl) (by kernel_rfl) (by kernel_rfl) (by kernel_rfl) (by kernel_rfl) (by kernel_rfl) ?_
 simp only [List.take_succ_cons,List.take_zero,relyAll,Act.put,List.setIfInBounds_toArray,List.set_cons_zero,List.set_cons_succ]
 refine ⟨?_,?_,?_,?_,?_,?_,?_,?_⟩
 · intros;apply ol;go_simp;exact gl
 · intros;apply ol;go_simp;exact gl
 · intro w' hg _
   apply ol
   have z:=(c1.drew.grown hg).at0 0 rfl
   go_simp
   exact gl
 · intros;apply ol;go_simp;exact gl
 · intros;apply ol;go_simp;exact gl
 · intros;apply ol;go_simp;exact gl
 · intro w' hg _
   apply ol
   have z:=(i1.drew.grown hg).c_ld
   go_simp
   exact gl
 intro w7 hg _
 have m7:=m1.drew.below hg
 have i7:=i1.drew.grown hg
 have o7 : Only (L.and b) w w7:=o1.drew.trans (Only.ofGrown hg)
 clear hg m1 i1 c1 o1
 go_wp2_with (go_at_call 144;refine (aend m7 hb i7 0 z a.ld).mono ?_;rintro e w9 ⟨rfl,s9,cs9,a9,m9,o9,i9,q9,rfl,rfl⟩)
 go_end0
 exact ⟨rfl,_,_,_,m9,o7.trans o9,i9,q9,rfl,rfl⟩
end Go.Proofs.YtlolfmoolgenpaaGreat
