import Derived.Test.YtkgpffcnimmdkaaGreatMovLeaf
namespace Go.Proofs.YtkgpffcnimmdkaaGreat
open Go.RowKit
set_option maxRecDepth 20000
variable {w : World} {L : Loc} {s : Mm} {b o : Nat} {T : TypeId} {cs : Array Value} {t n k m : Nat} {g p r : Int} {a : MV}
set_option maxHeartbeats 1000000 in
theorem mstands_first (h : MemAt w L s) (hi : MvAt w b o T cs a) (who : Int) (hG : Good t n k m g p r) (hl : arenaLen t n k m <= s.n) {x : Nat} (hx : x < n) (hsl : a.sl = x) (hnx : a.nx = 0) :
 Calls Tryz.prog 37 #[.pointer (some ⟨b,o,none⟩),.agg #[.int .i64 t,.int .i64 n,.int .i64 k,.int .i64 m,.int .i64 g,.int .i64 p,.int .i64 r,.pointer (some ⟨L.p,0,none⟩),.int .i64 who]] w fun e w'=>e = .returned (.bool true) /\ Below w.heap.size w w':=by
 have HX : Hid (a.sl = (x : Int)):=hsl
 have HN : Hid (a.nx = 0):=hnx
 clear hnx
 clear hsl
 go_enter Tryz.func37,Tryz.ntmps37
 go_wp2
 refine wp_over (fun W=>MemAt W L s /\ MvAt W b o T cs a /\ BoxV W w.heap.size t n k m g p r L.p who /\ Below w.heap.size w W) ⟨h.alloc _,hi.grown (grow1 _ _),BoxV.new,grow1 _ _⟩ ?_
 rintro W ⟨m1,i1,v1,o1⟩
 refine wp_region_rely Grown [.val (.pointer (some ⟨w.heap.size,0,none⟩)),.val (.agg #[.int .i64 t,.int .i64 n,.int .i64 k,.int .i64 m,.int .i64 g,.int .i64 p,.int .i64 r]),.val (.bool true),.val (.bool true),.val (.pointer (some ⟨w.heap.size,7,none⟩)),.val (.pointer (some ⟨L.p,0,none⟩)),.val (.int .i64 s.n),.val (.pointer (some ⟨w.heap.size,0,none⟩)),.val (.agg #[.int .i64 t,.int .i64 n,.int .i64 k,.int .i64 m,.int .i64 g,.int .i64 p,.int .i64 r]),.val (.int .i64 (arenaLen t n k m : Nat)),.val (.bool true),.val (.bool true),.val (.bool true),.val (.pointer (some ⟨b,o,none⟩)),.val (.pointer (some ⟨b,o,none⟩)),.val (.pointer (some ⟨b,o + 2,none⟩)),.val (.pointer (some ⟨b,o + 4,none⟩)),.val (.int .i64 a.sl),.val (.bool true),.val (.bool true),.val (.bool true),.val (.pointer (some ⟨b,o,none⟩)),.val (.pointer (some ⟨b,o,none⟩)),.val (.pointer (some ⟨b,o + 2,none⟩)),.val (.pointer (some ⟨b,o + 4,none⟩)),.val (.int .i64 a.sl),.val (.pointer (some ⟨w.heap.size,0,none⟩)),.val (.pointer (some ⟨w.heap.size,1,none⟩)),.val (.int .i64 n),.val (.bool true),.val (.bool true),.val (.bool true),.val (.pointer (some ⟨b,o,none⟩)),.val (.pointer (some ⟨b,o,none⟩)),.val (.pointer (some ⟨b,o,none⟩)),.val (.int .i64 a.nx),.val (.bool true),.val (.bool true),.val undef,.val undef,.val undef,.val undef,.val (.bool true),.val (.bool true),.val (.bool true)] (by kernel_rfl) Grown.refl Grown.trans (by kernel_rfl) (by kernel_rfl) (by kernel_rfl) ?_
 simp only [relyAll,Act.put,List.setIfInBounds_toArray,List.set_cons_zero,List.set_cons_succ]
 refine ⟨?_,?_,?_,?_,?_,?_,?_,?_,?_,?_,?_,?_,?_,?_,?_,?_,?_,?_,?_,?_,?_,?_,?_,?_,?_,?_,?_,?_,?_,?_,?_,?_,?_,?_,?_,?_,?_,?_,?_,?_,?_,?_,?_,?_,?_,?_⟩
 · intros;apply ol;go_simp;exact gl
 · intro w' hg _
   apply ol
   obtain ⟨y0,y1,y2,y3,y4,y5,y6,y7,y8⟩:=(v1.grown ((Below.refl _ _).drew)).grown hg
   go_simp
   exact gl
 · intro w' hg _
   apply ol
   go_simp
   refine (lcheck_yes hG _).mono ?_
   rintro e w'' ⟨rfl,b9⟩
   exact ⟨_,rfl,b9,rfl⟩
 · intros;apply ol;go_simp;exact gl
 · intros;apply ol;go_simp;exact gl
 · intro w' hg _
   apply ol
   obtain ⟨y0,y1,y2,y3,y4,y5,y6,y7,y8⟩:=(v1.grown ((Below.refl _ _).drew)).grown hg
   go_simp
   exact gl
 · intro w' hg _
   apply ol
   go_simp
   refine (len_any (m1.drew.below hg)).mono ?_
   rintro e w'' ⟨rfl,rfl⟩
   exact ⟨_,rfl,Grown.refl _,rfl⟩
 · intros;apply ol;go_simp;exact gl
 · intro w' hg _
   apply ol
   obtain ⟨y0,y1,y2,y3,y4,y5,y6,y7,y8⟩:=(v1.grown ((Below.refl _ _).drew)).grown hg
   go_simp
   exact gl
 · intro w' hg _
   apply ol
   go_simp
   refine (llen_good hG _).mono ?_
   rintro e w'' ⟨rfl,b9⟩
   exact ⟨_,rfl,b9,rfl⟩
 · intro w' hg _
   apply ol
   have z : decide ((s.n : Int) ≥ ((arenaLen t n k m : Nat) : Int)) = true:=decide_eq_true (by omega)
   go_simp
   exact gl
 · intros;apply ol;go_simp;exact gl
 · intros;apply ol;go_simp;exact gl
 · intros;apply ol;go_simp;exact gl
 · intros;apply ol;go_simp;exact gl
 · intros;apply ol;go_simp;exact gl
 · intros;apply ol;go_simp;exact gl
 · intro w' hg _
   apply ol
   have z0:=(i1.drew.grown hg).c_sl
   go_simp
   exact gl
 · intro w' hg _
   apply ol
   have z : decide (a.sl ≥ 0) = true:=decide_eq_true (by rw [HX.out];omega)
   go_simp
   exact gl
 · intros;apply ol;go_simp;exact gl
 · intros;apply ol;go_simp;exact gl
 · intros;apply ol;go_simp;exact gl
 · intros;apply ol;go_simp;exact gl
 · intros;apply ol;go_simp;exact gl
 · intros;apply ol;go_simp;exact gl
 · intro w' hg _
   apply ol
   have z0:=(i1.drew.grown hg).c_sl
   go_simp
   exact gl
 · intros;apply ol;go_simp;exact gl
 · intros;apply ol;go_simp;exact gl
 · intro w' hg _
   apply ol
   obtain ⟨y0,y1,y2,y3,y4,y5,y6,y7,y8⟩:=(v1.grown ((Below.refl _ _).drew)).grown hg
   go_simp
   exact gl
 · intro w' hg _
   apply ol
   have z : decide (a.sl < (n : Int)) = true:=decide_eq_true (by rw [HX.out];omega)
   go_simp
   exact gl
 · intros;apply ol;go_simp;exact gl
 · intros;apply ol;go_simp;exact gl
 · intros;apply ol;go_simp;exact gl
 · intros;apply ol;go_simp;exact gl
 · intros;apply ol;go_simp;exact gl
 · intro w' hg _
   apply ol
   have z0:=(i1.drew.grown hg).c_nx
   go_simp
   exact gl
 · intro w' hg _
   apply ol
   have z : (a.nx == 0) = true:=by rw [HN.out];rfl
   go_simp
   exact gl
 · intros;apply ol;go_simp;exact gl
 · intros;exact ur
 · intros;exact ur
 · intros;exact ur
 · intros;exact ur
 · intros;apply ol;go_simp;exact gl
 · intros;apply ol;go_simp;exact gl
 · intros;apply ol;go_simp;exact gl
 intro w5 hg _
 go_wp2
 go_ret
 exact ⟨rfl,grow (o1.trans ((Below.refl _ _).drew)) hg⟩
set_option maxHeartbeats 1000000 in
theorem mstands_more (h : MemAt w L s) (hi : MvAt w b o T cs a) (who : Int) (hG : Good t n k m g p r) (hl : arenaLen t n k m <= s.n) {x : Nat} (hx : x < n) (hsl : a.sl = x) (hnx : (a.nx == 0) = false) {i : Int} (hF : MFits t n k m a.ad a.sz i) :
 Calls Tryz.prog 37 #[.pointer (some ⟨b,o,none⟩),.agg #[.int .i64 t,.int .i64 n,.int .i64 k,.int .i64 m,.int .i64 g,.int .i64 p,.int .i64 r,.pointer (some ⟨L.p,0,none⟩),.int .i64 who]] w fun e w'=>e = .returned (.bool true) /\ Below w.heap.size w w':=by
 have HX : Hid (a.sl = (x : Int)):=hsl
 have HN : Hid ((a.nx == 0) = false):=hnx
 clear hnx
 clear hsl
 go_enter Tryz.func37,Tryz.ntmps37
 go_wp2
 refine wp_over (fun W=>MemAt W L s /\ MvAt W b o T cs a /\ BoxV W w.heap.size t n k m g p r L.p who /\ Below w.heap.size w W) ⟨h.alloc _,hi.grown (grow1 _ _),BoxV.new,grow1 _ _⟩ ?_
 rintro W ⟨m1,i1,v1,o1⟩
 refine wp_region_rely Grown [.val (.pointer (some ⟨w.heap.size,0,none⟩)),.val (.agg #[.int .i64 t,.int .i64 n,.int .i64 k,.int .i64 m,.int .i64 g,.int .i64 p,.int .i64 r]),.val (.bool true),.val (.bool true),.val (.pointer (some ⟨w.heap.size,7,none⟩)),.val (.pointer (some ⟨L.p,0,none⟩)),.val (.int .i64 s.n),.val (.pointer (some ⟨w.heap.size,0,none⟩)),.val (.agg #[.int .i64 t,.int .i64 n,.int .i64 k,.int .i64 m,.int .i64 g,.int .i64 p,.int .i64 r]),.val (.int .i64 (arenaLen t n k m : Nat)),.val (.bool true),.val (.bool true),.val (.bool true),.val (.pointer (some ⟨b,o,none⟩)),.val (.pointer (some ⟨b,o,none⟩)),.val (.pointer (some ⟨b,o + 2,none⟩)),.val (.pointer (some ⟨b,o + 4,none⟩)),.val (.int .i64 a.sl),.val (.bool true),.val (.bool true),.val (.bool true),.val (.pointer (some ⟨b,o,none⟩)),.val (.pointer (some ⟨b,o,none⟩)),.val (.pointer (some ⟨b,o + 2,none⟩)),.val (.pointer (some ⟨b,o + 4,none⟩)),.val (.int .i64 a.sl),.val (.pointer (some ⟨w.heap.size,0,none⟩)),.val (.pointer (some ⟨w.heap.size,1,none⟩)),.val (.int .i64 n),.val (.bool true),.val (.bool true),.val (.bool true),.val (.pointer (some ⟨b,o,none⟩)),.val (.pointer (some ⟨b,o,none⟩)),.val (.pointer (some ⟨b,o,none⟩)),.val (.int .i64 a.nx),.val (.bool false),.val (.bool false),.val (.pointer (some ⟨b,o,none⟩)),.val (.pointer (some ⟨w.heap.size,0,none⟩)),.val (.agg #[.int .i64 t,.int .i64 n,.int .i64 k,.int .i64 m,.int .i64 g,.int .i64 p,.int .i64 r]),.val (.bool true),.val (.bool true),.val (.bool true),.val (.bool true)] (by kernel_rfl) Grown.refl Grown.trans (by kernel_rfl) (by kernel_rfl) (by kernel_rfl) ?_
 simp only [relyAll,Act.put,List.setIfInBounds_toArray,List.set_cons_zero,List.set_cons_succ]
 refine ⟨?_,?_,?_,?_,?_,?_,?_,?_,?_,?_,?_,?_,?_,?_,?_,?_,?_,?_,?_,?_,?_,?_,?_,?_,?_,?_,?_,?_,?_,?_,?_,?_,?_,?_,?_,?_,?_,?_,?_,?_,?_,?_,?_,?_,?_,?_⟩
 · intros;apply ol;go_simp;exact gl
 · intro w' hg _
   apply ol
   obtain ⟨y0,y1,y2,y3,y4,y5,y6,y7,y8⟩:=(v1.grown ((Below.refl _ _).drew)).grown hg
   go_simp
   exact gl
 · intro w' hg _
   apply ol
   go_simp
   refine (lcheck_yes hG _).mono ?_
   rintro e w'' ⟨rfl,b9⟩
   exact ⟨_,rfl,b9,rfl⟩
 · intros;apply ol;go_simp;exact gl
 · intros;apply ol;go_simp;exact gl
 · intro w' hg _
   apply ol
   obtain ⟨y0,y1,y2,y3,y4,y5,y6,y7,y8⟩:=(v1.grown ((Below.refl _ _).drew)).grown hg
   go_simp
   exact gl
 · intro w' hg _
   apply ol
   go_simp
   refine (len_any (m1.drew.below hg)).mono ?_
   rintro e w'' ⟨rfl,rfl⟩
   exact ⟨_,rfl,Grown.refl _,rfl⟩
 · intros;apply ol;go_simp;exact gl
 · intro w' hg _
   apply ol
   obtain ⟨y0,y1,y2,y3,y4,y5,y6,y7,y8⟩:=(v1.grown ((Below.refl _ _).drew)).grown hg
   go_simp
   exact gl
 · intro w' hg _
   apply ol
   go_simp
   refine (llen_good hG _).mono ?_
   rintro e w'' ⟨rfl,b9⟩
   exact ⟨_,rfl,b9,rfl⟩
 · intro w' hg _
   apply ol
   have z : decide ((s.n : Int) ≥ ((arenaLen t n k m : Nat) : Int)) = true:=decide_eq_true (by omega)
   go_simp
   exact gl
 · intros;apply ol;go_simp;exact gl
 · intros;apply ol;go_simp;exact gl
 · intros;apply ol;go_simp;exact gl
 · intros;apply ol;go_simp;exact gl
 · intros;apply ol;go_simp;exact gl
 · intros;apply ol;go_simp;exact gl
 · intro w' hg _
   apply ol
   have z0:=(i1.drew.grown hg).c_sl
   go_simp
   exact gl
 · intro w' hg _
   apply ol
   have z : decide (a.sl ≥ 0) = true:=decide_eq_true (by rw [HX.out];omega)
   go_simp
   exact gl
 · intros;apply ol;go_simp;exact gl
 · intros;apply ol;go_simp;exact gl
 · intros;apply ol;go_simp;exact gl
 · intros;apply ol;go_simp;exact gl
 · intros;apply ol;go_simp;exact gl
 · intros;apply ol;go_simp;exact gl
 · intro w' hg _
   apply ol
   have z0:=(i1.drew.grown hg).c_sl
   go_simp
   exact gl
 · intros;apply ol;go_simp;exact gl
 · intros;apply ol;go_simp;exact gl
 · intro w' hg _
   apply ol
   obtain ⟨y0,y1,y2,y3,y4,y5,y6,y7,y8⟩:=(v1.grown ((Below.refl _ _).drew)).grown hg
   go_simp
   exact gl
 · intro w' hg _
   apply ol
   have z : decide (a.sl < (n : Int)) = true:=decide_eq_true (by rw [HX.out];omega)
   go_simp
   exact gl
 · intros;apply ol;go_simp;exact gl
 · intros;apply ol;go_simp;exact gl
 · intros;apply ol;go_simp;exact gl
 · intros;apply ol;go_simp;exact gl
 · intros;apply ol;go_simp;exact gl
 · intro w' hg _
   apply ol
   have z0:=(i1.drew.grown hg).c_nx
   go_simp
   exact gl
 · intro w' hg _
   apply ol
   have z : (a.nx == 0) = false:=HN.out
   go_simp
   exact gl
 · intros;apply ol;go_simp;exact gl
 · intros;apply ol;go_simp;exact gl
 · intros;apply ol;go_simp;exact gl
 · intro w' hg _
   apply ol
   obtain ⟨y0,y1,y2,y3,y4,y5,y6,y7,y8⟩:=(v1.grown ((Below.refl _ _).drew)).grown hg
   go_simp
   exact gl
 · intro w' hg _
   apply ol
   go_simp
   refine (mfits_yes (i1.drew.grown hg) hG hF).mono ?_
   rintro e w'' ⟨rfl,b9⟩
   exact ⟨_,rfl,b9,rfl⟩
 · intros;apply ol;go_simp;exact gl
 · intros;apply ol;go_simp;exact gl
 · intros;apply ol;go_simp;exact gl
 intro w5 hg _
 go_wp2
 go_ret
 exact ⟨rfl,grow (o1.trans ((Below.refl _ _).drew)) hg⟩
def endNx (d : Bool) : Int:=if d then 11 else 12
theorem mend_any (h : MemAt w L s) (hb : ¬ L.has b) (hi : MvAt w b o T cs a) (ou : Int) {κ : Nat} {τ : Pl} (hp : τ.cells κ a.pl) {A i : Nat} {d : Bool} (ht : τ.told = (A,i,d)) :
 Calls Tryz.prog 74 #[.pointer (some ⟨b,o,none⟩),.int .i64 ou] w fun e w'=>e = .returned (.tuple #[]) /\ Mact L b o T cs w w' (fun s' a'=>s' = s /\ a' = { a with ou:=ou,nx:=endNx d }):=by
 have k8:=hi.c_ou
 have kf:=hi.fz
 have i2:=hi.set_ou ou
 have k0 : (w.setCell ⟨b,o + 18,none⟩ (.int .i64 ou)).cell? ⟨b,o,none⟩ = some (.int .i64 a.nx):=i2.c_nx
 have kf2:=i2.fz
 have i3:=i2.set_nx 12
 have m3:=(h.setIn hb (o + 18) (.int .i64 ou)).setIn hb o (.int .i64 12)
 have o3:=((Only.refl (L.and b) w).set (o + 18) (.int .i64 ou)).set o (.int .i64 12)
 cases d
 · show Calls _ _ _ _ fun e w'=>e = .returned (.tuple #[]) /\ Mact L b o T cs w w' (fun s' a'=>s' = s /\ a' = { a with ou:=ou,nx:=12 })
   go_enter Tryz.func74,Tryz.ntmps74
   go_wp2_with (go_at_call 75;refine (mplaced_any (κ:=κ) (τ:=τ) i3 hp ht).mono ?_;rintro e w1 ⟨rfl,b1⟩)
   go_end0
   exact ⟨rfl,_,_,_,m3.below b1,o3.trans (Only.ofGrown b1),i3.grown b1,(Same.refl.set (by omega) _).set (by omega) _,rfl,rfl⟩
 · show Calls _ _ _ _ fun e w'=>e = .returned (.tuple #[]) /\ Mact L b o T cs w w' (fun s' a'=>s' = s /\ a' = { a with ou:=ou,nx:=11 })
   go_enter Tryz.func74,Tryz.ntmps74
   go_wp2_with (go_at_call 75;refine (mplaced_any (κ:=κ) (τ:=τ) i3 hp ht).mono ?_;rintro e w1 ⟨rfl,b1⟩;have i4:=i3.grown b1;have k4:=i4.c_nx;have kf4:=i4.fz)
   go_end0
   exact ⟨rfl,_,_,_,(m3.below b1).setIn hb _ _,(o3.trans (Only.ofGrown b1)).set _ _,i4.set_nx 11,((Same.refl.set (by omega) _).set (by omega) _).set (by omega) _,rfl,rfl⟩
set_option maxHeartbeats 400000 in
theorem mcount_any (h : MemAt w L s) (who : Int) (hG : Good t n k m g p r) {i : Nat} (hi : i < k) (hn : (6 + t + n * 2 + i * 3 + 1) < s.n) (d : Int) :
 Calls Tryz.prog 84 #[.agg #[.int .i64 t,.int .i64 n,.int .i64 k,.int .i64 m,.int .i64 g,.int .i64 p,.int .i64 r,.pointer (some ⟨L.p,0,none⟩),.int .i64 who],.int .i64 i,.int .i64 d] w fun e w'=>e = .returned (.tuple #[]) /\ MemAt w' L ((s.by who).step (6 + t + n * 2 + i * 3 + 1) (sum64 (s.wd (6 + t + n * 2 + i * 3 + 1)) (word64 d))) /\ Only L.has w w':=by
 have hk1:=hG.k1
 have hl:=h.len
 go_enter Tryz.func84,Tryz.ntmps84
 go_wp2
 refine wp_over (fun W=>MemAt W L s /\ BoxV W w.heap.size t n k m g p r L.p who /\ Only L.has w W) ⟨h.alloc _,BoxV.new,(Only.refl _ _).alloc _⟩ ?_
 rintro W ⟨m1,v1,o1⟩
 refine wp_region_rely_tail Grown 7 [.val (.agg #[.int .i64 t,.int .i64 n,.int .i64 k,.int .i64 m,.int .i64 g,.int .i64 p,.int .i64 r,.pointer (some ⟨L.p,0,none⟩),.int .i64 who]),.val (.pointer (some ⟨w.heap.size,0,none⟩)),.val (.agg #[.int .i64 t,.int .i64 n,.int .i64 k,.int .i64 m,.int .i64 g,.int .i64 p,.int .i64 r]),.val (.int .i64 i),.val (.int .i64 (((6 + t + n * 2 + i * 3) : Nat) : Int)),.val (.int .i64 ((((6 + t + n * 2 + i * 3 + 1) : Nat) : Int))),.val (.int .i64 d)] (by kernel_rfl) Grown.refl Grown.trans (by decide) (by kernel_rfl) (by kernel_rfl) (by kernel_rfl) (by kernel_rfl) (by kernel_rfl) (by kernel_rfl) ?_
 simp only [List.take_succ_cons,List.take_zero,relyAll,Act.put,List.setIfInBounds_toArray,List.set_cons_zero,List.set_cons_succ]
 refine ⟨?_,?_,?_,?_,?_,?_,?_,?_⟩
 · intro w' hg _
   apply ol
   obtain ⟨y0,y1,y2,y3,y4,y5,y6,y7,y8⟩:=(v1.grown ((Below.refl _ _).drew)).grown hg
   go_simp
   exact gl
 · intros;apply ol;go_simp;exact gl
 · intro w' hg _
   apply ol
   obtain ⟨y0,y1,y2,y3,y4,y5,y6,y7,y8⟩:=(v1.grown ((Below.refl _ _).drew)).grown hg
   go_simp
   exact gl
 · intros;apply ol;go_simp;exact gl
 · intro w' hg _
   apply ol
   go_simp
   refine (lchunk_any _ _ _ _ _ _ _ (i : Int) _ hG.arena (by omega) (by omega)).mono ?_
   rintro e w'' ⟨rfl,b9⟩
   exact ⟨_,rfl,b9,congrArg (Value.int .i64) (by omega)⟩
 · intro w' hg _
   apply ol
   go_simp
   exact ⟨Grown.refl _,congrArg (Value.int .i64) (by rw [IntKind.wrap_i64];omega)⟩
 · intros;apply ol;go_simp;exact gl
 intro w5 hg _
 have m5:=m1.drew.below hg
 go_wp2_with (go_at_call 123;refine (eadd_in m5 _ _ _ _ _ _ _ _ (6 + t + n * 2 + i * 3 + 1) hn d).mono ?_;rintro e w6 ⟨rfl,m6,o6⟩)
 go_end0
 exact ⟨rfl,m6,(o1.drew.trans (Only.ofGrown hg)).trans o6⟩
theorem spot0 (a1 a2 : Value) (w : World) : (Instr.field 38 (.agg #[a1,a2]) 0).run Tryz.prog w = .ok a1 w:=by kernel_rfl
theorem spot1 (a1 a2 : Value) (w : World) : (Instr.field 38 (.agg #[a1,a2]) 1).run Tryz.prog w = .ok a2 w:=by kernel_rfl
set_option maxHeartbeats 1000000 in
theorem mlayHead_any (h : MemAt w L s) (hi : MvAt w b o T cs a) (who : Int) {kd : Int} (fk : Fit kd) (fz : Fit a.sz) (fs : Fit a.sl) (fg : Fit a.gn) {κ : Nat} {τ : Pl} (hp : τ.cells κ a.pl) {A i : Nat} {d : Bool} (ht : τ.told = (A,i,d)) (hn : A < s.n) :
 Calls Tryz.prog 41 #[.pointer (some ⟨b,o,none⟩),.agg #[.int .i64 t,.int .i64 n,.int .i64 k,.int .i64 m,.int .i64 g,.int .i64 p,.int .i64 r,.pointer (some ⟨L.p,0,none⟩),.int .i64 who],.int .i64 kd] w fun e w'=>e = .returned (.tuple #[]) /\ MemAt w' L ((s.by who).step A (packOw kd a.sz a.sl a.gn a.own)) /\ Only L.has w w':=by
 have ff:=spot0
 have ph:=fun w=>putHead_any kd a.sz a.sl a.gn a.own w fk fz fs fg
 have i0:=hi.grown (grow1 _ (.cells #[.int .i64 t,.int .i64 n,.int .i64 k,.int .i64 m,.int .i64 g,.int .i64 p,.int .i64 r,.pointer (some ⟨L.p,0,none⟩),.int .i64 who] 27))
 have k2:=i0.c_kd
 have k3:=i0.c_sz
 have k4:=i0.c_sl
 have k5:=i0.c_gn
 have k6:=i0.c_own
 have q0:=At.new (w.alloc (.cells #[.int .i64 t,.int .i64 n,.int .i64 k,.int .i64 m,.int .i64 g,.int .i64 p,.int .i64 r,.pointer (some ⟨L.p,0,none⟩),.int .i64 who] 27)) 30 [.int .i64 a.kd,.int .i64 a.sz,.int .i64 a.sl,.int .i64 a.gn,.bool a.own]
 have z0:=q0.at0 0 rfl
 have qf:=q0.fz
 clear fk fz fs fg
 go_enter Tryz.func41,Tryz.ntmps41
 go_wp2
 obtain ⟨S,hS⟩ : ∃ S,(w.alloc (.cells #[.int .i64 t,.int .i64 n,.int .i64 k,.int .i64 m,.int .i64 g,.int .i64 p,.int .i64 r,.pointer (some ⟨L.p,0,none⟩),.int .i64 who] 27)).heap.size = S:=⟨_,rfl⟩
 have q2:=At.new (w.alloc (.cells #[.int .i64 t,.int .i64 n,.int .i64 k,.int .i64 m,.int .i64 g,.int .i64 p,.int .i64 r,.pointer (some ⟨L.p,0,none⟩),.int .i64 who] 27)) 30 [.int .i64 kd,.int .i64 a.sz,.int .i64 a.sl,.int .i64 a.gn,.bool a.own]
 rw [hS] at q2
 have hS' : w.heap.size + 1 = S:=by rw [<- hS,Go.Deep.nblk_alloc]
 try rw [hS']
 refine wp_over (fun W=>MemAt W L s /\ MvAt W b o T cs a /\ BoxV W w.heap.size t n k m g p r L.p who /\ At W S 0 30 _ [.int .i64 kd,.int .i64 a.sz,.int .i64 a.sl,.int .i64 a.gn,.bool a.own] /\ Only L.has w W) ⟨(h.alloc _).alloc _,i0.grown (grow1 _ _),BoxV.newB _,q2,((Only.refl _ _).alloc _).alloc _⟩ ?_
 clear q0 z0 qf q2 k2 k3 k4 k5 k6 i0
 rintro W ⟨m1,i1,v1,q1,o1⟩
 refine wp_region_rely_tail Grown 6 [.val (.agg #[.int .i64 t,.int .i64 n,.int .i64 k,.int .i64 m,.int .i64 g,.int .i64 p,.int .i64 r,.pointer (some ⟨L.p,0,none⟩),.int .i64 who]),.val (.pointer (some ⟨b,o,none⟩)),.val (.agg #[.int .i64 A,.int .i64 i]),.val (.int .i64 A),.val (.agg #[.int .i64 kd,.int .i64 a.sz,.int .i64 a.sl,.int .i64 a.gn,.bool a.own]),.val (.int .u64 (packOw kd a.sz a.sl a.gn a.own))] (by kernel_rfl) Grown.refl Grown.trans (by decide) (by kernel_rfl) (by kernel_rfl) (by kernel_rfl) (by kernel_rfl) (by kernel_rfl) (by kernel_rfl) ?_
 simp only [List.take_succ_cons,List.take_zero,relyAll,Act.put,List.setIfInBounds_toArray,List.set_cons_zero,List.set_cons_succ]
 refine ⟨?_,?_,?_,?_,?_,?_,?_⟩
 · intro w' hg _
   apply ol
   obtain ⟨y0,y1,y2,y3,y4,y5,y6,y7,y8⟩:=(v1.grown ((Below.refl _ _).drew)).grown hg
   go_simp
   exact gl
 · intros;apply ol;go_simp;exact gl
 · intro w' hg _
   apply ol
   go_simp
   refine (mcopyAt_any (i1.drew.grown hg) hp ht).mono ?_
   rintro e w'' ⟨rfl,b9⟩
   exact ⟨_,rfl,b9,rfl⟩
 · intros;apply ol;go_simp;exact gl
 · intro w' hg _
   apply ol
   have z0:=(q1.drew.grown hg).at0 0 rfl
   have z1:=(q1.drew.grown hg).at0 1 rfl
   have z2:=(q1.drew.grown hg).at0 2 rfl
   have z3:=(q1.drew.grown hg).at0 3 rfl
   have z4:=(q1.drew.grown hg).at0 4 rfl
   go_simp
   exact gl
 · intro w' hg _
   apply ol
   go_simp
   refine (ph _).mono ?_
   rintro e w'' ⟨rfl,b9⟩
   exact ⟨_,rfl,b9,rfl⟩
 intro w5 hg _
 have m5:=m1.drew.below hg
 go_wp2_with (go_at_call 77;refine (estore_in m5 _ _ _ _ _ _ _ _ A hn _).mono ?_;rintro e w6 ⟨rfl,m6,o6⟩)
 go_end0
 exact ⟨rfl,m6,(o1.drew.trans (Only.ofGrown hg)).trans o6⟩
set_option maxHeartbeats 1000000 in
theorem mget_on (h : MemAt w L s) (hb : ¬ L.has b) (hi : MvAt w b o T cs a) (who : Int) {σ κ : Nat} {y y' : Y} {τ τ' : Pl} (hy : Yard t n k m s σ y) (hG : Good t n k m g p r) (hσ : σ < 1000000) (hκ : κ < 4) (hp : τ.cells κ a.pl) (hg : τ.good k m κ σ) (ho : τ.over = false) (ht : turn k m κ (base t n k m) y τ = (y',τ')) (hv : τ'.over = false) :
 Calls Tryz.prog 40 #[.pointer (some ⟨b,o,none⟩),.agg #[.int .i64 t,.int .i64 n,.int .i64 k,.int .i64 m,.int .i64 g,.int .i64 p,.int .i64 r,.pointer (some ⟨L.p,0,none⟩),.int .i64 who]] w fun e w'=>e = .returned (.tuple #[]) /\ Mact L b o T cs w w' (fun s' a'=>∃ l,a' = { a with pl:=l } /\ τ'.cells κ l /\ Yard t n k m s' (σ + 1) y' /\ τ'.good k m κ (σ + 1) /\ ∃ v,s' = (s.by who).step (τ.at t n κ) v):=by
 have HY : Hid (Yard t n k m s σ y):=hy
 have HG : Hid (Good t n k m g p r):=hG
 have HP : Hid (τ.cells κ a.pl):=hp
 have HD : Hid (τ.good k m κ σ):=hg
 have HO : Hid (τ.over = false):=ho
 have HT : Hid (turn k m κ (base t n k m) y τ = (y',τ')):=ht
 clear hy hG hp hg ho ht
 have hbv : ¬ L.has w.heap.size:=fun hh=>by have:=h.lt _ hh;omega
 have hbb : ¬ w.heap.size = b:=fun hh=>by have:=hi.lt;omega
 go_enter Tryz.func40,Tryz.ntmps40
 go_wp2
 refine wp_over (fun W=>MemAt W L s /\ MvAt W b o T cs a /\ BoxV W w.heap.size t n k m g p r L.p who /\ Only (L.and b) w W) ⟨h.alloc _,hi.grown (grow1 _ _),BoxV.new,(Only.refl _ _).alloc _⟩ ?_
 rintro W ⟨m1,i1,v1,o1⟩
 refine wp_region_rely_tail Grown 4 [.val (.pointer (some ⟨b,o,none⟩)),.val (.pointer (some ⟨b,o,none⟩)),.val (.pointer (some ⟨b,o + 7,none⟩)),.val (.agg #[.int .i64 t,.int .i64 n,.int .i64 k,.int .i64 m,.int .i64 g,.int .i64 p,.int .i64 r,.pointer (some ⟨L.p,0,none⟩),.int .i64 who])] (by kernel_rfl) Grown.refl Grown.trans (by decide) (by kernel_rfl) (by kernel_rfl) (by kernel_rfl) (by kernel_rfl) (by kernel_rfl) (by kernel_rfl) ?_
 simp only [List.take_succ_cons,List.take_zero,relyAll,Act.put,List.setIfInBounds_toArray,List.set_cons_zero,List.set_cons_succ]
 refine ⟨?_,?_,?_,?_,?_⟩
 · intros;apply ol;go_simp;exact gl
 · intros;apply ol;go_simp;exact gl
 · intros;apply ol;go_simp;exact gl
 · intro w' hg _
   apply ol
   obtain ⟨y0,y1,y2,y3,y4,y5,y6,y7,y8⟩:=(v1.grown ((Below.refl _ _).drew)).grown hg
   go_simp
   exact gl
 intro w5 hg _
 have m5:=m1.drew.below hg
 have i5:=i1.drew.grown hg
 have o5 : Only (L.and b) w w5:=o1.drew.trans (Only.ofGrown hg)
 clear hg m1 i1 v1 o1
 go_wp2_with (first
  | (go_at_call 76;refine (place_turn m5 hb HY.out HG.out hσ hκ τ ⟨_,i5.plAt,HP.out⟩ HD.out HO.out who y' τ' HT.out false hv).mono ?_;rintro e w6 ⟨rfl,s6,cs6,P6⟩;obtain ⟨l6,al6,cl6⟩:=P6.a;have i6:=i5.step_pl al6 (Pl.cells_len cl6) P6.same;have k6:=i6.c_nx;have f6:=i6.fz))
 refine bodyPost_ret (results_none rfl _ _ _) rfl ?_
 exact ⟨rfl,_,_,_,P6.mm,o5.trans P6.only,i6,(P6.same.wide (by omega) (by omega)),l6,rfl,cl6,P6.yd,P6.good,P6.st⟩
set_option maxHeartbeats 1000000 in
theorem mget_won (h : MemAt w L s) (hb : ¬ L.has b) (hi : MvAt w b o T cs a) (who : Int) {σ κ : Nat} {y y' : Y} {τ τ' : Pl} (hy : Yard t n k m s σ y) (hG : Good t n k m g p r) (hσ : σ < 1000000) (hκ : κ < 4) (hp : τ.cells κ a.pl) (hg : τ.good k m κ σ) (ho : τ.over = false) (ht : turn k m κ (base t n k m) y τ = (y',τ')) (hv : τ'.over = true) {A i : Nat} (hw : τ' = .won A i) :
 Calls Tryz.prog 40 #[.pointer (some ⟨b,o,none⟩),.agg #[.int .i64 t,.int .i64 n,.int .i64 k,.int .i64 m,.int .i64 g,.int .i64 p,.int .i64 r,.pointer (some ⟨L.p,0,none⟩),.int .i64 who]] w fun e w'=>e = .returned (.tuple #[]) /\ Mact L b o T cs w w' (fun s' a'=>∃ l,a' = { a with pl:=l,nx:=2 } /\ τ'.cells κ l /\ Yard t n k m s' (σ + 1) y' /\ τ'.good k m κ (σ + 1) /\ ∃ v,s' = (s.by who).step (τ.at t n κ) v):=by
 have HY : Hid (Yard t n k m s σ y):=hy
 have HG : Hid (Good t n k m g p r):=hG
 have HP : Hid (τ.cells κ a.pl):=hp
 have HD : Hid (τ.good k m κ σ):=hg
 have HO : Hid (τ.over = false):=ho
 have HT : Hid (turn k m κ (base t n k m) y τ = (y',τ')):=ht
 clear hy hG hp hg ho ht
 have hbv : ¬ L.has w.heap.size:=fun hh=>by have:=h.lt _ hh;omega
 have hbb : ¬ w.heap.size = b:=fun hh=>by have:=hi.lt;omega
 go_enter Tryz.func40,Tryz.ntmps40
 go_wp2
 refine wp_over (fun W=>MemAt W L s /\ MvAt W b o T cs a /\ BoxV W w.heap.size t n k m g p r L.p who /\ Only (L.and b) w W) ⟨h.alloc _,hi.grown (grow1 _ _),BoxV.new,(Only.refl _ _).alloc _⟩ ?_
 rintro W ⟨m1,i1,v1,o1⟩
 refine wp_region_rely_tail Grown 4 [.val (.pointer (some ⟨b,o,none⟩)),.val (.pointer (some ⟨b,o,none⟩)),.val (.pointer (some ⟨b,o + 7,none⟩)),.val (.agg #[.int .i64 t,.int .i64 n,.int .i64 k,.int .i64 m,.int .i64 g,.int .i64 p,.int .i64 r,.pointer (some ⟨L.p,0,none⟩),.int .i64 who])] (by kernel_rfl) Grown.refl Grown.trans (by decide) (by kernel_rfl) (by kernel_rfl) (by kernel_rfl) (by kernel_rfl) (by kernel_rfl) (by kernel_rfl) ?_
 simp only [List.take_succ_cons,List.take_zero,relyAll,Act.put,List.setIfInBounds_toArray,List.set_cons_zero,List.set_cons_succ]
 refine ⟨?_,?_,?_,?_,?_⟩
 · intros;apply ol;go_simp;exact gl
 · intros;apply ol;go_simp;exact gl
 · intros;apply ol;go_simp;exact gl
 · intro w' hg _
   apply ol
   obtain ⟨y0,y1,y2,y3,y4,y5,y6,y7,y8⟩:=(v1.grown ((Below.refl _ _).drew)).grown hg
   go_simp
   exact gl
 intro w5 hg _
 have m5:=m1.drew.below hg
 have i5:=i1.drew.grown hg
 have o5 : Only (L.and b) w w5:=o1.drew.trans (Only.ofGrown hg)
 clear hg m1 i1 v1 o1
 go_wp2_with (first
  | (go_at_call 76;refine (place_turn m5 hb HY.out HG.out hσ hκ τ ⟨_,i5.plAt,HP.out⟩ HD.out HO.out who y' τ' HT.out true hv).mono ?_;rintro e w6 ⟨rfl,s6,cs6,P6⟩;obtain ⟨l6,al6,cl6⟩:=P6.a;have i6:=i5.step_pl al6 (Pl.cells_len cl6) P6.same;have k6:=i6.c_nx;have f6:=i6.fz)
  | (go_at_call 75;refine (mplaced_any (κ:=κ) (τ:=τ') (A:=A) (i:=i) (d:=true) i6 cl6 (by rw [hw];rfl)).mono ?_;rintro e w7 ⟨rfl,b7⟩;have i7:=i6.grown b7;have k7:=i7.c_nx;have f7:=i7.fz))
 go_end0
 exact ⟨rfl,_,_,_,(P6.mm.below b7).setIn hb _ _,((o5.trans P6.only).trans (Only.ofGrown b7)).set _ _,i7.set_nx 2,(P6.same.wide (by omega) (by omega)).set (by omega) _,l6,rfl,cl6,P6.yd,P6.good,P6.st⟩
set_option maxHeartbeats 1000000 in
theorem mget_none (h : MemAt w L s) (hb : ¬ L.has b) (hi : MvAt w b o T cs a) (who : Int) {σ κ : Nat} {y y' : Y} {τ τ' : Pl} (hy : Yard t n k m s σ y) (hG : Good t n k m g p r) (hσ : σ < 1000000) (hκ : κ < 4) (hp : τ.cells κ a.pl) (hg : τ.good k m κ σ) (ho : τ.over = false) (ht : turn k m κ (base t n k m) y τ = (y',τ')) (hv : τ'.over = true) (hw : τ' = .none) :
 Calls Tryz.prog 40 #[.pointer (some ⟨b,o,none⟩),.agg #[.int .i64 t,.int .i64 n,.int .i64 k,.int .i64 m,.int .i64 g,.int .i64 p,.int .i64 r,.pointer (some ⟨L.p,0,none⟩),.int .i64 who]] w fun e w'=>e = .returned (.tuple #[]) /\ Mact L b o T cs w w' (fun s' a'=>∃ l,a' = { a with pl:=l,ou:=4,nx:=12 } /\ τ'.cells κ l /\ Yard t n k m s' (σ + 1) y' /\ τ'.good k m κ (σ + 1) /\ ∃ v,s' = (s.by who).step (τ.at t n κ) v):=by
 have HY : Hid (Yard t n k m s σ y):=hy
 have HG : Hid (Good t n k m g p r):=hG
 have HP : Hid (τ.cells κ a.pl):=hp
 have HD : Hid (τ.good k m κ σ):=hg
 have HO : Hid (τ.over = false):=ho
 have HT : Hid (turn k m κ (base t n k m) y τ = (y',τ')):=ht
 clear hy hG hp hg ho ht
 have hbv : ¬ L.has w.heap.size:=fun hh=>by have:=h.lt _ hh;omega
 have hbb : ¬ w.heap.size = b:=fun hh=>by have:=hi.lt;omega
 go_enter Tryz.func40,Tryz.ntmps40
 go_wp2
 refine wp_over (fun W=>MemAt W L s /\ MvAt W b o T cs a /\ BoxV W w.heap.size t n k m g p r L.p who /\ Only (L.and b) w W) ⟨h.alloc _,hi.grown (grow1 _ _),BoxV.new,(Only.refl _ _).alloc _⟩ ?_
 rintro W ⟨m1,i1,v1,o1⟩
 refine wp_region_rely_tail Grown 4 [.val (.pointer (some ⟨b,o,none⟩)),.val (.pointer (some ⟨b,o,none⟩)),.val (.pointer (some ⟨b,o + 7,none⟩)),.val (.agg #[.int .i64 t,.int .i64 n,.int .i64 k,.int .i64 m,.int .i64 g,.int .i64 p,.int .i64 r,.pointer (some ⟨L.p,0,none⟩),.int .i64 who])] (by kernel_rfl) Grown.refl Grown.trans (by decide) (by kernel_rfl) (by kernel_rfl) (by kernel_rfl) (by kernel_rfl) (by kernel_rfl) (by kernel_rfl) ?_
 simp only [List.take_succ_cons,List.take_zero,relyAll,Act.put,List.setIfInBounds_toArray,List.set_cons_zero,List.set_cons_succ]
 refine ⟨?_,?_,?_,?_,?_⟩
 · intros;apply ol;go_simp;exact gl
 · intros;apply ol;go_simp;exact gl
 · intros;apply ol;go_simp;exact gl
 · intro w' hg _
   apply ol
   obtain ⟨y0,y1,y2,y3,y4,y5,y6,y7,y8⟩:=(v1.grown ((Below.refl _ _).drew)).grown hg
   go_simp
   exact gl
 intro w5 hg _
 have m5:=m1.drew.below hg
 have i5:=i1.drew.grown hg
 have o5 : Only (L.and b) w w5:=o1.drew.trans (Only.ofGrown hg)
 clear hg m1 i1 v1 o1
 go_wp2_with (first
  | (go_at_call 76;refine (place_turn m5 hb HY.out HG.out hσ hκ τ ⟨_,i5.plAt,HP.out⟩ HD.out HO.out who y' τ' HT.out true hv).mono ?_;rintro e w6 ⟨rfl,s6,cs6,P6⟩;obtain ⟨l6,al6,cl6⟩:=P6.a;have i6:=i5.step_pl al6 (Pl.cells_len cl6) P6.same;have k6:=i6.c_nx;have f6:=i6.fz)
  | (go_at_call 75;refine (mplaced_any (κ:=κ) (τ:=τ') (A:=0) (i:=0) (d:=false) i6 cl6 (by rw [hw];rfl)).mono ?_;rintro e w7 ⟨rfl,b7⟩;have i7:=i6.grown b7)
  | (go_at_call 74;refine (mend_any (κ:=κ) (τ:=τ') (A:=0) (i:=0) (d:=false) (P6.mm.below b7) hb i7 4 cl6 (by rw [hw];rfl)).mono ?_;rintro e w8 ⟨rfl,s8,cs8,a8,m8,o8,i8,q8,rfl,rfl⟩))
 refine bodyPost_ret (results_none rfl _ _ _) rfl ?_
 exact ⟨rfl,_,_,_,m8,((o5.trans P6.only).trans (Only.ofGrown b7)).trans o8,i8,(P6.same.wide (by omega) (by omega)).trans q8,l6,rfl,cl6,P6.yd,P6.good,P6.st⟩
end Go.Proofs.YtkgpffcnimmdkaaGreat
