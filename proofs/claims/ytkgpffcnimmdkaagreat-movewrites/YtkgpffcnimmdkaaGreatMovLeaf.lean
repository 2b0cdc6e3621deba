import Derived.Test.YtkgpffcnimmdkaaGreatDropAwake
import Derived.Test.YtkgpffcnimmdkaaGreatMovTurn
namespace Go.Proofs.YtkgpffcnimmdkaaGreat
open Go.RowKit
structure MV where
 nx : Int
 ad : Int
 kd : Int
 sz : Int
 sl : Int
 gn : Int
 own : Bool
 pl : List Value
 se : Int
 ce : Int
 wa : Int
 sp : Int
 ou : Int
structure MvAt (w : World) (b o : Nat) (T : TypeId) (c : Array Value) (a : MV) : Prop where
 obj : w.heap[b]? = some (.cells c T (0,0))
 lpl : a.pl.length = 7
 pl : ∀ i v,a.pl[i]? = some v -> c[o + 7 + i]? = some v
 nx : c[o]? = some (.int .i64 a.nx)
 ad : c[o + 1]? = some (.int .i64 a.ad)
 kd : c[o + 2]? = some (.int .i64 a.kd)
 sz : c[o + 3]? = some (.int .i64 a.sz)
 sl : c[o + 4]? = some (.int .i64 a.sl)
 gn : c[o + 5]? = some (.int .i64 a.gn)
 own : c[o + 6]? = some (.bool a.own)
 se : c[o + 14]? = some (.int .u64 a.se)
 ce : c[o + 15]? = some (.int .i64 a.ce)
 wa : c[o + 16]? = some (.int .u64 a.wa)
 sp : c[o + 17]? = some (.int .i64 a.sp)
 ou : c[o + 18]? = some (.int .i64 a.ou)
namespace MvAt
variable {w w' : World} {b o : Nat} {T : TypeId} {c c' : Array Value} {a : MV}
theorem lt (h : MvAt w b o T c a) : b < w.heap.size:=blk_lt h.obj
theorem fz (h : MvAt w b o T c a) (i : Nat) : w.frozen? ⟨b,i,none⟩ = false:=blk_frozen h.obj i
theorem of_block (h : MvAt w b o T c a) (e : w'.heap[b]? = w.heap[b]?) : MvAt w' b o T c a:={ h with obj:=e.trans h.obj }
theorem grown (h : MvAt w b o T c a) (g : Below w.heap.size w w') : MvAt w' b o T c a:=h.of_block (g.block _ h.lt)
theorem drew (h : MvAt w b o T c a) : MvAt w.drew b o T c a:=h.of_block rfl
theorem only {S : Nat -> Prop} (h : MvAt w b o T c a) (g : Only S w w') (hs : ¬ S b) : MvAt w' b o T c a:=h.of_block (g.block _ h.lt hs)
theorem other (h : MvAt w b o T c a) {k : Nat} (hk : b ≠ k) (i : Nat) (v : Value) : MvAt (w.setCell ⟨k,i,none⟩ v) b o T c a:=h.of_block (Go.Deep.blk_setCell_other _ _ _ _ (by simpa using hk))
theorem plAt (h : MvAt w b o T c a) : At w b (o + 7) T c a.pl:=⟨h.obj,h.pl⟩
theorem c_nx (h : MvAt w b o T c a) : w.cell? ⟨b,o,none⟩ = some (.int .i64 a.nx):=blk_cell h.obj h.nx
theorem c_ad (h : MvAt w b o T c a) : w.cell? ⟨b,o + 1,none⟩ = some (.int .i64 a.ad):=blk_cell h.obj h.ad
theorem c_kd (h : MvAt w b o T c a) : w.cell? ⟨b,o + 2,none⟩ = some (.int .i64 a.kd):=blk_cell h.obj h.kd
theorem c_sz (h : MvAt w b o T c a) : w.cell? ⟨b,o + 3,none⟩ = some (.int .i64 a.sz):=blk_cell h.obj h.sz
theorem c_sl (h : MvAt w b o T c a) : w.cell? ⟨b,o + 4,none⟩ = some (.int .i64 a.sl):=blk_cell h.obj h.sl
theorem c_gn (h : MvAt w b o T c a) : w.cell? ⟨b,o + 5,none⟩ = some (.int .i64 a.gn):=blk_cell h.obj h.gn
theorem c_own (h : MvAt w b o T c a) : w.cell? ⟨b,o + 6,none⟩ = some (.bool a.own):=blk_cell h.obj h.own
theorem c_se (h : MvAt w b o T c a) : w.cell? ⟨b,o + 14,none⟩ = some (.int .u64 a.se):=blk_cell h.obj h.se
theorem c_ce (h : MvAt w b o T c a) : w.cell? ⟨b,o + 15,none⟩ = some (.int .i64 a.ce):=blk_cell h.obj h.ce
theorem c_wa (h : MvAt w b o T c a) : w.cell? ⟨b,o + 16,none⟩ = some (.int .u64 a.wa):=blk_cell h.obj h.wa
theorem c_sp (h : MvAt w b o T c a) : w.cell? ⟨b,o + 17,none⟩ = some (.int .i64 a.sp):=blk_cell h.obj h.sp
theorem c_ou (h : MvAt w b o T c a) : w.cell? ⟨b,o + 18,none⟩ = some (.int .i64 a.ou):=blk_cell h.obj h.ou
theorem set_nx (h : MvAt w b o T c a) (x : Int) : MvAt (w.setCell ⟨b,o,none⟩ (.int .i64 x)) b o T (c.setIfInBounds (o) (.int .i64 x)) { a with nx:=x } :=
 ⟨blk_setCell _ _ _ _ _ _ h.obj,h.lpl,rowskip h.pl _ (by have:=h.lpl;omega),putc _ h.nx,keepc h.ad (by omega),keepc h.kd (by omega),keepc h.sz (by omega),keepc h.sl (by omega),keepc h.gn (by omega),keepc h.own (by omega),keepc h.se (by omega),keepc h.ce (by omega),keepc h.wa (by omega),keepc h.sp (by omega),keepc h.ou (by omega)⟩
theorem set_se (h : MvAt w b o T c a) (x : Int) : MvAt (w.setCell ⟨b,o + 14,none⟩ (.int .u64 x)) b o T (c.setIfInBounds (o + 14) (.int .u64 x)) { a with se:=x } :=
 ⟨blk_setCell _ _ _ _ _ _ h.obj,h.lpl,rowskip h.pl _ (by have:=h.lpl;omega),keepc h.nx (by omega),keepc h.ad (by omega),keepc h.kd (by omega),keepc h.sz (by omega),keepc h.sl (by omega),keepc h.gn (by omega),keepc h.own (by omega),putc _ h.se,keepc h.ce (by omega),keepc h.wa (by omega),keepc h.sp (by omega),keepc h.ou (by omega)⟩
theorem set_ce (h : MvAt w b o T c a) (x : Int) : MvAt (w.setCell ⟨b,o + 15,none⟩ (.int .i64 x)) b o T (c.setIfInBounds (o + 15) (.int .i64 x)) { a with ce:=x } :=
 ⟨blk_setCell _ _ _ _ _ _ h.obj,h.lpl,rowskip h.pl _ (by have:=h.lpl;omega),keepc h.nx (by omega),keepc h.ad (by omega),keepc h.kd (by omega),keepc h.sz (by omega),keepc h.sl (by omega),keepc h.gn (by omega),keepc h.own (by omega),keepc h.se (by omega),putc _ h.ce,keepc h.wa (by omega),keepc h.sp (by omega),keepc h.ou (by omega)⟩
theorem set_wa (h : MvAt w b o T c a) (x : Int) : MvAt (w.setCell ⟨b,o + 16,none⟩ (.int .u64 x)) b o T (c.setIfInBounds (o + 16) (.int .u64 x)) { a with wa:=x } :=
 ⟨blk_setCell _ _ _ _ _ _ h.obj,h.lpl,rowskip h.pl _ (by have:=h.lpl;omega),keepc h.nx (by omega),keepc h.ad (by omega),keepc h.kd (by omega),keepc h.sz (by omega),keepc h.sl (by omega),keepc h.gn (by omega),keepc h.own (by omega),keepc h.se (by omega),keepc h.ce (by omega),putc _ h.wa,keepc h.sp (by omega),keepc h.ou (by omega)⟩
theorem set_sp (h : MvAt w b o T c a) (x : Int) : MvAt (w.setCell ⟨b,o + 17,none⟩ (.int .i64 x)) b o T (c.setIfInBounds (o + 17) (.int .i64 x)) { a with sp:=x } :=
 ⟨blk_setCell _ _ _ _ _ _ h.obj,h.lpl,rowskip h.pl _ (by have:=h.lpl;omega),keepc h.nx (by omega),keepc h.ad (by omega),keepc h.kd (by omega),keepc h.sz (by omega),keepc h.sl (by omega),keepc h.gn (by omega),keepc h.own (by omega),keepc h.se (by omega),keepc h.ce (by omega),keepc h.wa (by omega),putc _ h.sp,keepc h.ou (by omega)⟩
theorem set_ou (h : MvAt w b o T c a) (x : Int) : MvAt (w.setCell ⟨b,o + 18,none⟩ (.int .i64 x)) b o T (c.setIfInBounds (o + 18) (.int .i64 x)) { a with ou:=x } :=
 ⟨blk_setCell _ _ _ _ _ _ h.obj,h.lpl,rowskip h.pl _ (by have:=h.lpl;omega),keepc h.nx (by omega),keepc h.ad (by omega),keepc h.kd (by omega),keepc h.sz (by omega),keepc h.sl (by omega),keepc h.gn (by omega),keepc h.own (by omega),keepc h.se (by omega),keepc h.ce (by omega),keepc h.wa (by omega),keepc h.sp (by omega),putc _ h.ou⟩
theorem step_pl (h : MvAt w b o T c a) {l : List Value} (hA : At w' b (o + 7) T c' l) (hl : l.length = 7) (sm : Same (o + 7) 7 c c') : MvAt w' b o T c' { a with pl:=l } :=
 ⟨hA.obj,hl,hA.is,(sm.2 _ (by omega)).trans h.nx,(sm.2 _ (by omega)).trans h.ad,(sm.2 _ (by omega)).trans h.kd,(sm.2 _ (by omega)).trans h.sz,(sm.2 _ (by omega)).trans h.sl,(sm.2 _ (by omega)).trans h.gn,(sm.2 _ (by omega)).trans h.own,(sm.2 _ (by omega)).trans h.se,(sm.2 _ (by omega)).trans h.ce,(sm.2 _ (by omega)).trans h.wa,(sm.2 _ (by omega)).trans h.sp,(sm.2 _ (by omega)).trans h.ou⟩
end MvAt
def Mact (L : Loc) (b o : Nat) (T : TypeId) (cs : Array Value) (w w' : World) (X : Mm -> MV -> Prop) : Prop :=
 ∃ s' cs' a',MemAt w' L s' /\ Only (L.and b) w w' /\ MvAt w' b o T cs' a' /\ Same o 19 cs cs' /\ X s' a'
def phMv (L : Loc) (b o : Nat) (T : TypeId) (c c' : Array Value) (s s' : Mm) (a a' : MV) : Nat -> World -> Prop
 | 0,w=>MemAt w L s /\ MvAt w b o T c a
 | 1,w=>MemAt w L s' /\ MvAt w b o T c a
 | _,w=>MemAt w L s' /\ MvAt w b o T c' a'
theorem phMv_grown {L : Loc} {b o : Nat} {T : TypeId} {c c' : Array Value} {s s' : Mm} {a a' : MV} (x y : World) (p : Nat) (g : Grown x y) (k : phMv L b o T c c' s s' a a' p x) : phMv L b o T c c' s s' a a' p y:=by
 match p,k with
 | 0,k=>exact ⟨k.1.below g,k.2.grown g⟩
 | 1,k=>exact ⟨k.1.below g,k.2.grown g⟩
 | p + 2,k=>exact ⟨k.1.below g,k.2.grown g⟩
end Go.Proofs.YtkgpffcnimmdkaaGreat

namespace Go.Proofs.YtkgpffcnimmdkaaGreat
open Go.RowKit
set_option maxRecDepth 20000
variable {w : World} {L : Loc} {s : Mm} {b o : Nat} {T : TypeId} {cs : Array Value} {t n k m : Nat} {g p r : Int} {a : MV}
def mv0 (A kd Z x G : Int) (own : Bool) (κ : Int) : MV:=⟨0,A,kd,Z,x,G,own,PlV 0 κ 0 0 0 0 0,0,0,0,0,0⟩
def mov0 (A kd Z x G : Int) (own : Bool) (κ : Int) : Obj:=.cells #[.int .i64 0,.int .i64 A,.int .i64 kd,.int .i64 Z,.int .i64 x,.int .i64 G,.bool own,.int .i64 0,.int .i64 κ,.int .u64 0,.int .i64 0,.int .u64 0,.int .i64 0,.int .i64 0,.int .u64 0,.int .i64 0,.int .u64 0,.int .i64 0,.int .i64 0] 83
theorem mov0_at (A kd Z x G : Int) (own : Bool) (κ : Int) (w : World) : ∃ cs,MvAt (w.alloc (mov0 A kd Z x G own κ)) w.heap.size 0 83 cs (mv0 A kd Z x G own κ):=by
 refine ⟨_,Go.Deep.blk_alloc_new _ _,rfl,fun i v hv=>?_,rfl,rfl,rfl,rfl,rfl,rfl,rfl,rfl,rfl,rfl,rfl,rfl⟩
 have hl : i < 7:=lt_of_some hv
 match i,hl with
 | 0,_=>exact hv
 | 1,_=>exact hv
 | 2,_=>exact hv
 | 3,_=>exact hv
 | 4,_=>exact hv
 | 5,_=>exact hv
 | 6,_=>exact hv
set_option maxHeartbeats 400000 in
theorem newMov_any (A kd Z x G : Int) (own : Bool) (κ : Nat) (hκ : classOf Z = κ) (w : World) :
 Calls Tryz.prog 11 #[.int .i64 A,.agg #[.int .i64 kd,.int .i64 Z,.int .i64 x,.int .i64 G,.bool own]] w fun e w'=>∃ W,e = .returned (.pointer (some ⟨W.heap.size,0,none⟩)) /\ w' = W.alloc (mov0 A kd Z x G own κ) /\ Below w.heap.size w W:=by
 have cl:=fun w=>lclass_any Z w
 rw [hκ] at cl
 unfold mov0
 go_enter Tryz.func11,Tryz.ntmps11
 go_wp2
 refine wp_over (fun W=>At W w.heap.size 0 30 _ [.int .i64 kd,.int .i64 Z,.int .i64 x,.int .i64 G,.bool own] /\ Below w.heap.size w W) ⟨At.new _ _ _,grow1 _ _⟩ ?_
 rintro W ⟨x1,o1⟩
 refine wp_region_rely_tail Grown 8 [.val (.int .i64 A),.val (.agg #[.int .i64 kd,.int .i64 Z,.int .i64 x,.int .i64 G,.bool own]),.val (.pointer (some ⟨w.heap.size,1,none⟩)),.val (.int .i64 Z),.val (.int .i64 κ),.that (fun w' v=>∃ X,v = .pointer (some ⟨X,0,none⟩) /\ At w' X 0 79 #[.int .i64 0,.int .i64 κ,.int .u64 0,.int .i64 0,.int .u64 0,.int .i64 0,.int .i64 0] [.int .i64 0,.int .i64 κ,.int .u64 0,.int .i64 0,.int .u64 0,.int .i64 0,.int .i64 0]) (fun _ _ _ hg h=>by obtain ⟨X,e,q⟩:=h;exact ⟨X,e,q.grown hg⟩),.that (fun w' v=>∃ X,v = .pointer (some ⟨X,0,none⟩) /\ At w' X 0 79 #[.int .i64 0,.int .i64 κ,.int .u64 0,.int .i64 0,.int .u64 0,.int .i64 0,.int .i64 0] [.int .i64 0,.int .i64 κ,.int .u64 0,.int .i64 0,.int .u64 0,.int .i64 0,.int .i64 0]) (fun _ _ _ hg h=>by obtain ⟨X,e,q⟩:=h;exact ⟨X,e,q.grown hg⟩),.val (.agg #[.int .i64 0,.int .i64 κ,.int .u64 0,.int .i64 0,.int .u64 0,.int .i64 0,.int .i64 0])] (by kernel_rfl) Grown.refl Grown.trans (by decide) (by kernel_rfl) (by kernel_rfl) (by kernel_rfl) (by kernel_rfl) (by kernel_rfl) (by kernel_rfl) ?_
 simp only [List.take_succ_cons,List.take_zero,relyAll,Act.put,List.setIfInBounds_toArray,List.set_cons_zero,List.set_cons_succ]
 refine ⟨?_,⟨?_,⟨?_,⟨?_,⟨?_,⟨?_,fun _=>⟨?_,fun _=>⟨?_,?_⟩⟩⟩⟩⟩⟩⟩⟩
 · intros;apply ol;go_simp;exact gl
 · intro w' hg _
   apply ol
   have z0:=(x1.drew.grown hg).at0 0 rfl
   have z1:=(x1.drew.grown hg).at0 1 rfl
   have z2:=(x1.drew.grown hg).at0 2 rfl
   have z3:=(x1.drew.grown hg).at0 3 rfl
   have z4:=(x1.drew.grown hg).at0 4 rfl
   go_simp
   exact gl
 · intros;apply ol;go_simp;exact gl
 · intro w' hg _
   apply ol
   have z:=(x1.drew.grown hg).at0 1 rfl
   go_simp
   exact gl
 · intro w' hg _
   apply ol
   go_simp
   refine (cl _).mono ?_
   rintro e w'' ⟨rfl,rfl⟩
   exact ⟨_,rfl,Grown.refl _,rfl⟩
 · intro w' hg _
   apply ol
   go_simp
   refine (newPlace_any κ _).mono ?_
   rintro e w'' ⟨rfl,rfl⟩
   obtain ⟨l,q,hl⟩:=place0_at κ w'
   exact ⟨_,rfl,grow_alloc (Below.refl _ _) _,_,rfl,At.new w' _ _⟩
 · intro w' hg hf
   apply ol
   obtain ⟨X,rfl,q⟩:=hf.1 (by kernel_rfl)
   have z:=q.at0 0 rfl
   go_simp
   exact ⟨Grown.refl _,_,rfl,q⟩
 · intro w' hg hf
   apply ol
   obtain ⟨X,rfl,q⟩:=hf.1 (by kernel_rfl)
   have z0:=q.at0 0 rfl
   have z1:=q.at0 1 rfl
   have z2:=q.at0 2 rfl
   have z3:=q.at0 3 rfl
   have z4:=q.at0 4 rfl
   have z5:=q.at0 5 rfl
   have z6:=q.at0 6 rfl
   go_simp
   exact gl
 intro w5 hg _
 go_wp2
 go_ret
 exact ⟨w5,rfl,rfl,grow (o1.trans ((Below.refl _ _).drew)) hg⟩
theorem mout_over (hi : MvAt w b o T cs a) (hnx : a.nx = 12) :
 Calls Tryz.prog 16 #[.pointer (some ⟨b,o,none⟩)] w fun e w'=>e = .returned (.int .i64 a.ou) /\ w' = w:=by
 have k0:=hi.c_nx
 rw [hnx] at k0
 have k1:=hi.c_ou
 go_enter Tryz.func16,Tryz.ntmps16
 go_wp2
 go_ret
 exact ⟨rfl,rfl⟩
theorem mplaced_any (hi : MvAt w b o T cs a) {κ : Nat} {τ : Pl} (hp : τ.cells κ a.pl) {A i : Nat} {d : Bool} (ht : τ.told = (A,i,d)) :
 Calls Tryz.prog 75 #[.pointer (some ⟨b,o,none⟩)] w fun e w'=>e = .returned (.bool d) /\ Below w.heap.size w w':=by
 go_enter Tryz.func75,Tryz.ntmps75
 go_wp2_with (go_at_call 48;refine (spot_any (κ:=κ) (τ:=τ) ⟨_,hi.plAt,hp⟩ A i d ht).mono ?_;rintro e w1 ⟨rfl,b1⟩)
 go_ret
 exact ⟨rfl,grow_alloc b1 _⟩
theorem mcopyAt_any (hi : MvAt w b o T cs a) {κ : Nat} {τ : Pl} (hp : τ.cells κ a.pl) {A i : Nat} {d : Bool} (ht : τ.told = (A,i,d)) :
 Calls Tryz.prog 78 #[.pointer (some ⟨b,o,none⟩)] w fun e w'=>e = .returned (.agg #[.int .i64 A,.int .i64 i]) /\ Below w.heap.size w w':=by
 have i0:=hi.grown (grow1 _ (.cells #[.int .i64 0,.int .i64 0] 38))
 have d0:=At.new w 38 [.int .i64 0,.int .i64 0]
 go_enter Tryz.func78,Tryz.ntmps78
 go_wp2_with (go_at_call 48;refine (spot_any (κ:=κ) (τ:=τ) ⟨_,i0.plAt,hp⟩ A i d ht).mono ?_;rintro e w1 ⟨rfl,b1⟩;have d1:=(d0.grown b1).grown (grow1 _ (.cells #[.int .i64 A,.int .i64 i] 38));have e1:=At.new w1 38 [.int .i64 A,.int .i64 i];have z0:=d1.at0 0 rfl;have z1:=d1.at0 1 rfl;have qf:=d1.fz;have y0:=e1.at0 0 rfl;have y1:=e1.at0 1 rfl)
 refine bodyPost_ret (v:=.agg #[.int .i64 A,.int .i64 i]) (by simp [results,Tryz.results78,go_sem,z0,z1]) rfl ⟨rfl,?_⟩
 exact below_setIn (below_setIn (grow (grow (grow1 _ _) b1) (grow1 _ _)) (Nat.le_refl _) _ _) (Nat.le_refl _) _ _
theorem mslot_any {x : Nat} (hz : w.cell? ⟨b,o + 4,none⟩ = some (.int .i64 x)) (P : Nat) (who : Int) (hG : Good t n k m g p r) (hx : x < n) :
 Calls Tryz.prog 73 #[.pointer (some ⟨b,o,none⟩),.agg #[.int .i64 t,.int .i64 n,.int .i64 k,.int .i64 m,.int .i64 g,.int .i64 p,.int .i64 r,.pointer (some ⟨P,0,none⟩),.int .i64 who]] w fun e w'=>e = .returned (.int .i64 (((6 + t + x * 2) : Nat) : Int)) /\ Below w.heap.size w w':=by
 have hs1:=hG.s1
 go_enter Tryz.func73,Tryz.ntmps73
 go_wp2
 refine wp_over (fun W=>W.cell? ⟨b,o + 4,none⟩ = some (.int .i64 x) /\ BoxV W w.heap.size t n k m g p r P who /\ Below w.heap.size w W) ⟨keep' (grow1 _ _) hz,BoxV.new,grow1 _ _⟩ ?_
 rintro W ⟨i1,v1,o1⟩
 refine wp_region_rely Grown [.val (.pointer (some ⟨w.heap.size,0,none⟩)),.val (.agg #[.int .i64 t,.int .i64 n,.int .i64 k,.int .i64 m,.int .i64 g,.int .i64 p,.int .i64 r]),.val (.pointer (some ⟨b,o,none⟩)),.val (.pointer (some ⟨b,o,none⟩)),.val (.pointer (some ⟨b,o + 2,none⟩)),.val (.pointer (some ⟨b,o + 4,none⟩)),.val (.int .i64 x),.val (.int .i64 (((6 + t + x * 2) : Nat) : Int)),.val (.int .i64 (((6 + t + x * 2) : Nat) : Int))] (by kernel_rfl) Grown.refl Grown.trans (by kernel_rfl) (by kernel_rfl) (by kernel_rfl) ?_
 simp only [relyAll,Act.put,List.setIfInBounds_toArray,List.set_cons_zero,List.set_cons_succ]
 refine ⟨?_,?_,?_,?_,?_,?_,?_,?_,?_,?_⟩
 · intros;apply ol;go_simp;exact gl
 · intro w' hg _
   apply ol
   obtain ⟨y0,y1,y2,y3,y4,y5,y6,y7,y8⟩:=(v1.grown ((Below.refl _ _).drew)).grown hg
   go_simp
   exact gl
 · intros;apply ol;go_simp;exact gl
 · intros;apply ol;go_simp;exact gl
 · intros;apply ol;go_simp;exact gl
 · intros;apply ol;go_simp;exact gl
 · intro w' hg _
   apply ol
   have z:=keep' hg (keep' ((Below.refl _ _).drew) i1)
   go_simp
   exact gl
 · intro w' hg _
   apply ol
   go_simp
   refine (lslot_any _ _ _ _ _ _ _ (x : Int) _ hG.arena (by omega) (by omega)).mono ?_
   rintro e w'' ⟨rfl,b9⟩
   exact ⟨_,rfl,b9,congrArg (Value.int .i64) (by omega)⟩
 · intros;apply ol;go_simp;exact gl
 intro w5 hg _
 go_wp2
 go_ret
 exact ⟨rfl,grow (o1.trans ((Below.refl _ _).drew)) hg⟩
structure MFits (t n k m : Nat) (A Z : Int) (i : Int) : Prop where
 z1 : 1 <= Z
 z2 : Z <= 16
 a0 : 0 <= A
 a1 : A <= 1048575
 i0 : 0 <= i
 c1 : chunkOf t n k m A = i
 c2 : chunkOf t n k m (A + Z) = i
set_option maxHeartbeats 400000 in
theorem mfits_yes (hi : MvAt w b o T cs a) (hG : Good t n k m g p r) {i : Int} (hF : MFits t n k m a.ad a.sz i) :
 Calls Tryz.prog 71 #[.pointer (some ⟨b,o,none⟩),.agg #[.int .i64 t,.int .i64 n,.int .i64 k,.int .i64 m,.int .i64 g,.int .i64 p,.int .i64 r]] w fun e w'=>e = .returned (.bool true) /\ Below w.heap.size w w':=by
 obtain ⟨z1,z2,a0,a1,hi0,hc1,hc2⟩:=hF
 have HI : Hid (i ≥ 0):=hi0
 have HA : Hid (0 <= a.ad /\ a.ad <= 1048575 /\ 1 <= a.sz /\ a.sz <= 16):=⟨a0,a1,z1,z2⟩
 have cl:=fun w=>lclass_any a.sz w
 have hcl : (decide (classOf a.sz ≥ 0)) = true:=decide_eq_true (by
  unfold classOf
  rw [if_neg (by omega)]
  repeat' split
  all_goals omega)
 have of1:=fun w=>lof_any hG a.ad (by omega) w
 rw [hc1] at of1
 have of2:=fun w=>lof_any hG (a.ad + a.sz) (by omega) w
 rw [hc2] at of2
 have i0:=hi.grown (grow1 _ (.cells #[.int .i64 t,.int .i64 n,.int .i64 k,.int .i64 m,.int .i64 g,.int .i64 p,.int .i64 r] 24))
 have k3:=i0.c_sz
 generalize hgc : classOf a.sz = C at cl hcl
 clear z1 z2 a0 a1 hi0 hc1 hc2 hgc
 go_enter Tryz.func71,Tryz.ntmps71
 go_wp2_with (go_at_call 19;refine (cl _).mono ?_;rintro e w1 ⟨rfl,rfl⟩)
 refine wp_over (fun W=>MvAt W b o T cs a /\ At W w.heap.size 0 24 _ [.int .i64 t,.int .i64 n,.int .i64 k,.int .i64 m,.int .i64 g,.int .i64 p,.int .i64 r] /\ Below w.heap.size w W) ⟨i0,At.new _ _ _,grow1 _ _⟩ ?_
 clear k3 i0
 rintro W ⟨i1,c1,o1⟩
 refine wp_region_rely Grown [.val (.agg #[.int .i64 t,.int .i64 n,.int .i64 k,.int .i64 m,.int .i64 g,.int .i64 p,.int .i64 r]),.val (.pointer (some ⟨b,o,none⟩)),.val (.pointer (some ⟨b,o,none⟩)),.val (.pointer (some ⟨b,o + 1,none⟩)),.val (.int .i64 a.ad),.val (.int .i64 i),.val (.int .i64 i)] (by kernel_rfl) Grown.refl Grown.trans (by kernel_rfl) (by kernel_rfl) (by kernel_rfl) ?_
 simp only [relyAll,Act.put,List.setIfInBounds_toArray,List.set_cons_zero,List.set_cons_succ]
 refine ⟨?_,?_,?_,?_,?_,?_,?_,?_⟩
 · intro w' hg _
   apply ol
   have z0:=(c1.drew.grown hg).at0 0 rfl
   have z1:=(c1.drew.grown hg).at0 1 rfl
   have z2:=(c1.drew.grown hg).at0 2 rfl
   have z3:=(c1.drew.grown hg).at0 3 rfl
   have z4:=(c1.drew.grown hg).at0 4 rfl
   have z5:=(c1.drew.grown hg).at0 5 rfl
   have z6:=(c1.drew.grown hg).at0 6 rfl
   go_simp
   exact gl
 · intros;apply ol;go_simp;exact gl
 · intros;apply ol;go_simp;exact gl
 · intros;apply ol;go_simp;exact gl
 · intro w' hg _
   apply ol
   have z0:=(i1.drew.grown hg).c_ad
   go_simp
   exact gl
 · intro w' hg _
   apply ol
   go_simp
   refine (of1 _).mono ?_
   rintro e w'' ⟨rfl,b9⟩
   exact ⟨_,rfl,b9,rfl⟩
 · intros;apply ol;go_simp;exact gl
 intro w5 hg _
 have i5:=i1.drew.grown hg
 have c5:=c1.drew.grown hg
 have o5:=grow (o1.trans ((Below.refl _ _).drew)) hg
 clear hg i1 c1 o1
 go_wp2
 refine wp_over (fun W=>MvAt W b o T cs a /\ At W w.heap.size 0 24 _ [.int .i64 t,.int .i64 n,.int .i64 k,.int .i64 m,.int .i64 g,.int .i64 p,.int .i64 r] /\ Below w.heap.size w W) ⟨i5,c5,o5⟩ ?_
 clear i5 c5 o5
 rintro W ⟨i1,c1,o1⟩
 refine wp_region_rely Grown [.val (.int .i64 i),.val (.bool true),.val (.bool true),.val (.agg #[.int .i64 t,.int .i64 n,.int .i64 k,.int .i64 m,.int .i64 g,.int .i64 p,.int .i64 r]),.val (.pointer (some ⟨b,o,none⟩)),.val (.pointer (some ⟨b,o,none⟩)),.val (.pointer (some ⟨b,o + 1,none⟩)),.val (.int .i64 a.ad),.val (.int .i64 a.sz),.val (.int .i64 (a.ad + a.sz)),.val (.int .i64 i),.val (.int .i64 i),.val (.bool true),.val (.bool true),.val (.bool true)] (by kernel_rfl) Grown.refl Grown.trans (by kernel_rfl) (by kernel_rfl) (by kernel_rfl) ?_
 simp only [relyAll,Act.put,List.setIfInBounds_toArray,List.set_cons_zero,List.set_cons_succ]
 refine ⟨?_,?_,?_,?_,?_,?_,?_,?_,?_,?_,?_,?_,?_,?_,?_,?_⟩
 · intros;apply ol;go_simp;exact gl
 · intro w' hg _
   apply ol
   go_simp
   refine ⟨Grown.refl _,?_⟩
   first
    | rfl
    | (simp [Want.pred];done)
    | (simp [Want.pred];omega)
    | exact congrArg Value.bool (decide_eq_true HI.out)
 · intros;apply ol;go_simp;exact gl
 · intro w' hg _
   apply ol
   have z0:=(c1.drew.grown hg).at0 0 rfl
   have z1:=(c1.drew.grown hg).at0 1 rfl
   have z2:=(c1.drew.grown hg).at0 2 rfl
   have z3:=(c1.drew.grown hg).at0 3 rfl
   have z4:=(c1.drew.grown hg).at0 4 rfl
   have z5:=(c1.drew.grown hg).at0 5 rfl
   have z6:=(c1.drew.grown hg).at0 6 rfl
   go_simp
   exact gl
 · intros;apply ol;go_simp;exact gl
 · intros;apply ol;go_simp;exact gl
 · intros;apply ol;go_simp;exact gl
 · intro w' hg _
   apply ol
   have z0:=(i1.drew.grown hg).c_ad
   go_simp
   exact gl
 · intros;apply ol;go_simp;exact gl
 · intro w' hg _
   apply ol
   go_simp
   exact ⟨Grown.refl _,congrArg (Value.int .i64) (by rw [IntKind.wrap_i64];have:=HA.out;omega)⟩
 · intro w' hg _
   apply ol
   go_simp
   refine (of2 _).mono ?_
   rintro e w'' ⟨rfl,b9⟩
   exact ⟨_,rfl,b9,rfl⟩
 · intros;apply ol;go_simp;exact gl
 · intro w' hg _
   apply ol
   go_simp
   refine ⟨Grown.refl _,?_⟩
   first
    | rfl
    | (simp [Want.pred];done)
    | (simp [Want.pred];omega)
    | exact congrArg Value.bool (by simp)
 · intros;apply ol;go_simp;exact gl
 · intros;apply ol;go_simp;exact gl
 intro w5 hg _
 go_wp2
 go_ret
 exact ⟨rfl,grow (o1.trans ((Below.refl _ _).drew)) hg⟩
end Go.Proofs.YtkgpffcnimmdkaaGreat
