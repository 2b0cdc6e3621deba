import Derived.Test.YtkgpffcnimmdkaaGreatMovBegun
namespace Go.Proofs.YtkgpffcnimmdkaaGreat
open Go.RowKit
structure Sc (w0 W : World) (L : Loc) (E H Z : Nat) (s : Mm) (σ : Nat) (q : Q) : Prop where
 sp : Spt w0 W L E 4 8 4 20 s σ q
 hd : ∃ cs,At W H 0 30 cs [.int .i64 2,.int .i64 Z,.int .i64 0,.int .i64 1,.bool false]
structure ScA (w0 : World) (L : Loc) (E H : Nat) : Prop where
 fa : FarmApart w0 L E 4 8 4 20 100
 hl : ¬ L.has H
 h0 : w0.heap.size <= H
 eh : E ≠ H
section
variable {w0 W W' : World} {L : Loc} {E H Z σ : Nat} {s : Mm} {q : Q}
theorem Sc.grown (f : Sc w0 W L E H Z s σ q) (g : Below W.heap.size W W') : Sc w0 W' L E H Z s σ q:=⟨f.sp.grown g,f.hd.imp fun _ h=>h.grown g⟩
theorem Sc.only (f : Sc w0 W L E H Z s σ q) (a : ScA w0 L E H) {s' : Mm} {σ' : Nat} {q' : Q} (o : Only L.has W W') (m : MemAt W' L s') (t : Town 4 8 4 20 s' σ' q') : Sc w0 W' L E H Z s' σ' q' :=
 ⟨f.sp.only a.fa o m t,f.hd.imp fun _ h=>h.only o a.hl⟩
theorem Sc.setIn (f : Sc w0 W L E H Z s σ q) {X : Nat} (h0 : w0.heap.size <= X) (hE : E ≠ X) (hH : H ≠ X) (hL : ¬ L.has X) (i : Nat) (v : Value) : Sc w0 (W.setCell ⟨X,i,none⟩ v) L E H Z s σ q:=⟨f.sp.setIn h0 hE hL i v,f.hd.imp fun _ h=>h.other hH i v⟩
theorem Sc.ltH (f : Sc w0 W L E H Z s σ q) : H < W.heap.size:=by obtain ⟨_,h⟩:=f.hd;exact h.lt
end
theorem sc_new {w0 w1 : World} {L : Loc} {s : Mm} {σ Z : Nat} {q : Q} (m1 : MemAt w1 L s) (t1 : Town 4 8 4 20 s σ q) (b1 : Below w0.heap.size w0 w1) (l1 : ∀ k,L.has k -> w0.heap.size <= k) :
 Sc w0 ((w1.alloc (.cells #[.int .i64 4,.int .i64 8,.int .i64 4,.int .i64 20,.int .i64 100,.int .i64 600,.int .i64 3,.pointer (some ⟨L.p,0,none⟩),.int .i64 0] 27)).alloc (.cells #[.int .i64 2,.int .i64 Z,.int .i64 0,.int .i64 1,.bool false] 30)) L w1.heap.size (w1.heap.size + 1) Z s σ q /\ ScA w0 L w1.heap.size (w1.heap.size + 1):=by
 have hE : ¬ L.has w1.heap.size:=fun hh=>by have:=m1.lt _ hh;omega
 have hH : ¬ L.has (w1.heap.size + 1):=fun hh=>by have:=m1.lt _ hh;omega
 have hs:=b1.size
 exact ⟨⟨⟨(m1.alloc _).alloc _,t1,BoxV.newB _,grow_alloc (grow_alloc b1 _) _⟩,⟨_,At.new2 _ _ _ _⟩⟩,⟨⟨l1,hE,hs,good11⟩,hH,by omega,by omega⟩⟩
structure ScM (w0 W : World) (L : Loc) (E H M Z : Nat) (s : Mm) (σ : Nat) (q : Q) (wr : Bool) (c V : Nat) (val : Nat -> Int) (yE : Y) (r : Nat) (μ : Mv) : Prop where
 sc : Sc w0 W L E H Z s σ q
 mv : ∃ cs a,MvAt W M 0 83 cs a /\ MvIs (mw Z c) μ a
 pg : μ.pg 4 20 (mw Z c).κ σ
 mi : MI wr Z c V val yE r q μ
structure ScMA (w0 : World) (L : Loc) (E H M : Nat) : Prop where
 sa : ScA w0 L E H
 ml : ¬ L.has M
 m0 : w0.heap.size <= M
 em : E ≠ M
 hm : H ≠ M
theorem below_and {w0 w w' : World} {L : Loc} {M : Nat} (b : Below w0.heap.size w0 w) (o : Only (L.and M) w w') (l0 : ∀ k,L.has k -> w0.heap.size <= k) (m0 : w0.heap.size <= M) : Below w0.heap.size w0 w' :=
 ⟨o.os.trans b.os,o.tape.trans b.tape,o.output.trans b.output,Nat.le_trans b.size o.size,fun k hk=>(o.block k (Nat.lt_of_lt_of_le hk b.size) (fun hh=>hh.elim (fun h=>by have:=l0 k h;omega) (fun e=>by have e' : k = M:=e;omega))).trans (b.block k hk)⟩
section
variable {w0 W W' : World} {L : Loc} {E H M Z σ : Nat} {s : Mm} {q : Q} {wr : Bool} {c V r : Nat} {val : Nat -> Int} {yE : Y} {μ : Mv}
theorem ScM.grown (f : ScM w0 W L E H M Z s σ q wr c V val yE r μ) (g : Below W.heap.size W W') : ScM w0 W' L E H M Z s σ q wr c V val yE r μ:=⟨f.sc.grown g,by obtain ⟨cs,a,h,k⟩:=f.mv;exact ⟨cs,a,h.grown g,k⟩,f.pg,f.mi⟩
theorem ScM.drew (f : ScM w0 W L E H M Z s σ q wr c V val yE r μ) : ScM w0 W.drew L E H M Z s σ q wr c V val yE r μ:=f.grown ((Below.refl _ _).drew)
theorem ScM.setIn (f : ScM w0 W L E H M Z s σ q wr c V val yE r μ) {X : Nat} (h0 : w0.heap.size <= X) (hE : E ≠ X) (hH : H ≠ X) (hM : M ≠ X) (hL : ¬ L.has X) (i : Nat) (v : Value) : ScM w0 (W.setCell ⟨X,i,none⟩ v) L E H M Z s σ q wr c V val yE r μ:=⟨f.sc.setIn h0 hE hH hL i v,by obtain ⟨cs,a,h,k⟩:=f.mv;exact ⟨cs,a,h.other hM i v,k⟩,f.pg,f.mi⟩
theorem ScM.ltM (f : ScM w0 W L E H M Z s σ q wr c V val yE r μ) : M < W.heap.size:=by obtain ⟨_,_,h,_⟩:=f.mv;exact h.lt
theorem ScM.only (f : ScM w0 W L E H M Z s σ q wr c V val yE r μ) (A : ScMA w0 L E H M) {s' : Mm} {σ' : Nat} {q' : Q} (o : Only L.has W W') (m : MemAt W' L s') (t : Town 4 8 4 20 s' σ' q') (hs : σ <= σ') {V' r' : Nat} {val' : Nat -> Int} (i : MI wr Z c V' val' yE r' q' μ) : ScM w0 W' L E H M Z s' σ' q' wr c V' val' yE r' μ :=
 ⟨f.sc.only A.sa o m t,by obtain ⟨cs,a,h,k⟩:=f.mv;exact ⟨cs,a,h.only o A.ml,k⟩,f.pg.up hs,i⟩
theorem MI.com (h : MI wr Z c V val yE r q μ) : Com Z c val q:=by
 cases μ with
 | see=>exact h.1.cm
 | place=>exact h.1.cm
 | head=>exact h.1.cm
 | mark=>exact h.1.cm
 | load=>exact h.1.lim.2.2
 | freeze=>exact h.1.lim.2.2
 | copy=>exact h.1.lim.2.2
 | shw=>exact h.1.lim.2.2
 | ready=>exact h.1.cm
 | grow=>exact h.1.cm
 | fall=>exact h.1.cm
 | bury=>exact h.2.2.1.cm
 | over=>rcases h with h | h;exact h.2.1.cm;exact h.2.2.cm
theorem ScM.step (f : ScM w0 W L E H M Z s σ q wr c V val yE r μ) (A : ScMA w0 L E H M) (hσ : σ < 1000000) (ho : μ.over? = false) :
 ∃ (q' : Q) (μ' : Mv) (r' : Nat),mvTurn (mw Z c) 4 20 (base 4 8 4 20) q μ = (q',μ') /\ (mpot wr Z c r' q' μ' + 1 <= mpot wr Z c r q μ) /\ MI wr Z c V val yE r' q' μ' /\ r' <= r /\ ∀ d,μ'.over? = d ->
  Calls Tryz.prog 12 #[.pointer (some ⟨M,0,none⟩),.agg #[.int .i64 4,.int .i64 8,.int .i64 4,.int .i64 20,.int .i64 100,.int .i64 600,.int .i64 3,.pointer (some ⟨L.p,0,none⟩),.int .i64 0]] W fun e w'=>e = .returned (.bool d) /\ ∃ s',ScM w0 w' L E H M Z s' (σ + 1) q' wr c V val yE r' μ' /\ Only (L.and M) W w' /\ ∃ v,s' = (s.by 0).step (μ.at 4 8 (mw Z c)) v:=by
 obtain ⟨⟨q',μ'⟩,ht⟩ : ∃ x,mvTurn (mw Z c) 4 20 (base 4 8 4 20) q μ = x:=⟨_,rfl⟩
 have cm:=f.mi.com
 obtain ⟨gd,r',hrr,mi',hp⟩:=mi_step f.mi ho ht σ (fun v τ fl e=>by have:=f.pg;rw [e] at this;exact this)
 refine ⟨q',μ',r',ht,hp,mi',hrr,fun d hd=>?_⟩
 obtain ⟨cs,a,mv,is⟩:=f.mv
 have k:=move_step f.sc.sp.mm A.ml f.sc.sp.tw good11 hσ cm.wd (mw_ok cm.z1 cm.z2 cm.c2) rfl μ mv is gd ho 0 q' μ' ht d hd
 refine k.mono ?_
 rintro e w' ⟨rfl,s',cs',a',D⟩
 refine ⟨rfl,s',⟨⟨⟨D.mm,D.tw,f.sc.sp.v.only D.only (fun h=>h.elim A.sa.fa.e (fun e=>A.em e)),below_and f.sc.sp.b D.only A.sa.fa.l0 A.m0⟩,f.sc.hd.imp fun _ h=>h.only D.only (fun h=>h.elim A.sa.hl (fun e=>A.hm e))⟩,⟨cs',a',D.mv,D.is⟩,D.pg,mi'⟩,D.only,D.st⟩
theorem ScM.out {o : Int} {τ : Pl} (f : ScM w0 W L E H M Z s σ q wr c V val yE r (.over o τ)) :
 Calls Tryz.prog 16 #[.pointer (some ⟨M,0,none⟩)] W fun e w'=>e = .returned (.int .i64 o) /\ w' = W:=by
 obtain ⟨cs,a,mv,is⟩:=f.mv
 have k:=mout_over mv is.nx
 rw [show a.ou = o from is.sec] at k
 exact k
theorem scm_new {W1 : World} (f : Sc w0 W1 L E H Z s σ q) (A : ScA w0 L E H) (kd : Int) (mi : MI wr Z c V val yE r q (.see .see 0)) :
 ScM w0 (W1.alloc (mov0 (mw Z c).A kd (mw Z c).Z (mw Z c).x (mw Z c).G (mw Z c).own (mw Z c).κ)) L E H W1.heap.size Z s σ q wr c V val yE r (.see .see 0) /\ ScMA w0 L E H W1.heap.size:=by
 obtain ⟨cs,k⟩:=mov0_at (mw Z c).A kd (mw Z c).Z (mw Z c).x (mw Z c).G (mw Z c).own (mw Z c).κ W1
 exact ⟨⟨f.grown (grow1 _ _),⟨cs,_,k,mv0_is (mw Z c) kd⟩,trivial,mi⟩,⟨A,fun hh=>by have:=f.sp.mm.lt _ hh;omega,f.sp.b.size,by have:=f.sp.ltE;omega,by have:=f.ltH;omega⟩⟩
end
theorem new11 {Z c : Nat} (z1 : 1 <= Z) (z2 : Z <= 16) (w : World) :
 Calls Tryz.prog 11 #[.int .i64 (base 4 8 4 20 c : Nat),.agg #[.int .i64 2,.int .i64 Z,.int .i64 0,.int .i64 1,.bool false]] w fun e w'=>∃ W,e = .returned (.pointer (some ⟨W.heap.size,0,none⟩)) /\ w' = W.alloc (mov0 (mw Z c).A 2 (mw Z c).Z (mw Z c).x (mw Z c).G (mw Z c).own (mw Z c).κ) /\ Below w.heap.size w W :=
 newMov_any _ 2 _ 0 1 false (mw Z c).κ (class_room z1 z2).1 w
theorem new0 {Z : Nat} (z1 : 1 <= Z) (z2 : Z <= 16) (w : World) :
 Calls Tryz.prog 11 #[.int .i64 38,.agg #[.int .i64 2,.int .i64 Z,.int .i64 0,.int .i64 1,.bool false]] w fun e w'=>∃ W,e = .returned (.pointer (some ⟨W.heap.size,0,none⟩)) /\ w' = W.alloc (mov0 (mw Z 0).A 2 (mw Z 0).Z (mw Z 0).x (mw Z 0).G (mw Z 0).own (mw Z 0).κ) /\ Below w.heap.size w W:=new11 (c:=0) z1 z2 w
theorem new2 (w : World) :
 Calls Tryz.prog 11 #[.int .i64 38,.agg #[.int .i64 2,.int .i64 2,.int .i64 0,.int .i64 1,.bool false]] w fun e w'=>∃ W,e = .returned (.pointer (some ⟨W.heap.size,0,none⟩)) /\ w' = W.alloc (mov0 (mw 2 0).A 2 (mw 2 0).Z (mw 2 0).x (mw 2 0).G (mw 2 0).own (mw 2 0).κ) /\ Below w.heap.size w W:=new0 (Z:=2) (by decide) (by decide) w
theorem Mv.is_over {μ : Mv} (h : μ.over? = true) : ∃ o τ,μ = .over o τ:=by
 cases μ with
 | over o τ=>exact ⟨o,τ,rfl⟩
 | _=>cases h
theorem bgn_mi {Z : Nat} {val : Nat -> Int} {q : Q} (wr : Bool) (h : AtA Z 0 0 1 val q) (hy : q.y = yB (mw Z 0).κ) : MI wr Z 0 0 val (yE (mw Z 0).κ) 9 q (.see .see 0) :=
 ⟨h,⟨by decide,by decide,fun _=>Nat.le_refl _,fun _=>rfl⟩,Or.inl ⟨rfl,by rw [hy];exact goesB _⟩⟩
theorem AtB.scn {Z c V : Nat} {h : Nat} {l d : Nat} {val : Nat -> Int} {q : Q} (B : AtB Z c V h l d val q) (hk : h <= 3) : Scn 4 8 4 20 0 1 Z (c + 1) (q.sw 0) false q:=by
 have dd:=hw_dec (c:=c) B.cm.z2 (kd:=h) hk
 have hc:=B.cm.c2
 refine ⟨rfl,wo_obj B.sw rfl B.cm.z1 B.cm.z2 (by omega),by rw [B.sw.s];decide,B.sw.g,?_,?_,B.cm.wd,by decide⟩
 · rw [B.sw.a,B.hB];exact dd.1
 · rw [B.sw.a,B.hB];exact dd.2.1
theorem AtA.scn {Z c V st : Nat} {val : Nat -> Int} {q : Q} (B : AtA Z c V st val q) (hs : lifeB (st : Int) = true) (h4 : st ≠ 4) : Scn 4 8 4 20 0 1 Z c (q.sw 0) false q:=by
 have dd:=hw_dec (c:=c) B.cm.z2 (kd:=2) (by decide)
 have hc:=B.cm.c2
 refine ⟨rfl,wo_obj B.sw hs B.cm.z1 B.cm.z2 (by omega),by rw [B.sw.s];omega,B.sw.g,?_,?_,B.cm.wd,by decide⟩
 · rw [B.sw.a,B.cm.hA];exact dd.1
 · rw [B.sw.a,B.cm.hA];exact dd.2.1
def wtD (i : Int) : Wt:=⟨1,65536,i,0,0⟩
theorem scn_read {Z i : Nat} {q : Q} (S : Scn 4 8 4 20 0 1 Z i (q.sw 0) false q) {j : Nat} (hj : j < Z) (σ : Nat) {x : Int} (hx : vOf (q.dw (adOf (q.sw 0) + 1 + j)) = x) : ARuns 4 8 4 20 (wtD j) false 0 1 true 4 σ q .see q (.over 0 x (σ + 3)):=by
 have hat : (wtD j).at (q.sw 0) = adOf (q.sw 0) + 1 + j:=by unfold Wt.at wtD;simp
 have r:=S.reads (W:=wtD j) (σ:=σ) (by show (0 : Int) <= (j : Int);omega) (by show (j : Int) < (Z : Int);omega) (c:=q.dw (adOf (q.sw 0) + 1 + j)) (by rw [hat]) rfl
 have ho : (wtD j).other (q.dw (adOf (q.sw 0) + 1 + j)) = false:=by unfold Wt.other wtD;simp
 rwa [ho,if_neg (by decide),hx] at r
theorem AtB.read {Z c V : Nat} {h : Nat} {l d : Nat} {val : Nat -> Int} {q : Q} (B : AtB Z c V h l d val q) (hk : h <= 3) {j : Nat} (hj : j < Z) (σ : Nat) : ARuns 4 8 4 20 (wtD j) false 0 1 true 4 σ q .see q (.over 0 (val j) (σ + 3)) :=
 scn_read (B.scn hk) hj σ (by rw [B.sw.a,B.cl j hj];exact (val_cell (B.cm.vb j hj)).2.1)
theorem AtA.read {Z c V : Nat} {val : Nat -> Int} {q : Q} (B : AtA Z c V 1 val q) {j : Nat} (hj : j < Z) (σ : Nat) : ARuns 4 8 4 20 (wtD j) false 0 1 true 4 σ q .see q (.over 0 (val j) (σ + 3)) :=
 scn_read (B.scn rfl (by decide)) hj σ (by rw [B.sw.a];exact (B.cl j hj).1)
theorem Sc.where {w0 W : World} {L : Loc} {E H Z σ : Nat} {s : Mm} {q : Q} (f : Sc w0 W L E H Z s σ q) {st A V : Nat} (h : Wo (q.sw 0) st A V) :
 Calls Tryz.prog 14 #[.agg #[.int .i64 4,.int .i64 8,.int .i64 4,.int .i64 20,.int .i64 100,.int .i64 600,.int .i64 3,.pointer (some ⟨L.p,0,none⟩),.int .i64 0],.int .u64 65536] W fun e w'=>e = .returned (.agg #[.int .i64 st,.int .i64 A,.int .i64 1,.int .i64 V]) /\ Below W.heap.size W w':=by
 have k:=where_any f.sp.mm f.sp.tw
 rw [h.s,h.a,h.g,h.r] at k
 exact k
theorem Sc.read {w0 W : World} {L : Loc} {E H Z σ : Nat} {s : Mm} {q : Q} (f : Sc w0 W L E H Z s σ q) (A : ScA w0 L E H) (hdw : ∀ a,Wd (q.dw a)) (hσ : σ + 200 < 1000000) {j : Nat} {N : Nat} (hN : N <= 200) {rb : Bool} {Er x : Int} {st : Nat} (g : ARuns 4 8 4 20 (wtD j) false 0 1 rb N σ q .see q (.over Er x st)) :
 Calls Tryz.prog 17 #[.agg #[.int .i64 4,.int .i64 8,.int .i64 4,.int .i64 20,.int .i64 100,.int .i64 600,.int .i64 3,.pointer (some ⟨L.p,0,none⟩),.int .i64 0],.int .u64 65536,.int .i64 j] W fun e w'=>e = .returned (.agg #[.int .i64 Er,.int .u64 0,.int .i64 x,.int .i64 st]) /\ ∃ s',Sc w0 w' L E H Z s' (σ + N) q /\ Only L.has W w':=by
 refine (read_any f.sp A.fa hdw hσ hN g).mono ?_
 rintro e w' ⟨rfl,s',f',o'⟩
 exact ⟨rfl,s',f.only A o' f'.mm f'.tw,o'⟩
end Go.Proofs.YtkgpffcnimmdkaaGreat

namespace Go.Proofs.YtkgpffcnimmdkaaGreat
open Go.RowKit
set_option maxRecDepth 20000
def z56 (i : Nat) : Int:=if i = 0 then 5 else 6
theorem begun_two (w : World) :
 Calls Tryz.prog 9 #[.int .i64 1,.slice (some ⟨w.heap.size,0,none⟩) 2 2] (w.alloc (.cells #[.int .i64 5,.int .i64 6] 3)) fun e w'=>∃ (L : Loc) (s : Mm) (σ : Nat) (q : Q),e = .returned (.tuple #[.agg #[.int .i64 4,.int .i64 8,.int .i64 4,.int .i64 20,.int .i64 100,.int .i64 600,.int .i64 3,.pointer (some ⟨L.p,0,none⟩),.int .i64 0],.int .u64 65536,.int .i64 38,.agg #[.int .i64 2,.int .i64 2,.int .i64 0,.int .i64 1,.bool false],.bool true]) /\ σ <= 1000 /\ MemAt w' L s /\ Town 4 8 4 20 s σ q /\ AtA 2 0 0 1 (vals 2 z56 2) q /\ q.y = yB (mw 2 0).κ /\ Below w.heap.size w w' /\ ∀ k,L.has k -> w.heap.size <= k:=by
 have a0:=At.new w 3 [.int .i64 5,.int .i64 6]
 have hz : IntsAt .i64 (w.alloc (.cells #[.int .i64 5,.int .i64 6] 3)) (some ⟨w.heap.size,0,none⟩) 2 z56:=fun i hi=>⟨w.heap.size,0,rfl,by
  match i,hi with
  | 0,_=>exact a0.at0 0 rfl
  | 1,_=>exact a0.at0 1 rfl⟩
 refine (begun_any 1 _ 2 2 z56 _ hz (Z:=2) (by decide) (by decide) (by decide)).mono ?_
 rintro e w' ⟨L,s,σ,q,rfl,h1,h2,h3,h4,h5,h6,h7⟩
 exact ⟨L,s,σ,q,rfl,h1,h2,h3,h4,h5,grow (grow1 _ _) h6,fun k hk=>by have:=h7 k hk;rw [Go.Deep.nblk_alloc] at this;omega⟩
set_option maxHeartbeats 1000000 in
theorem awake11_any (w : World) :
 Calls Tryz.prog 10 #[] w fun e w'=>e = .returned (.bool true) /\ Below w.heap.size w w':=by
 have ffS : ∀ (a1 a2 a3 a4 : Value) (w : World),(Instr.field 42 (.agg #[a1,a2,a3,a4]) 1).run Tryz.prog w = .ok a2 w:=fun a1 a2 a3 a4 w=>by kernel_rfl
 have ffD : ∀ (a1 a2 a3 a4 : Value) (w : World),(Instr.field 48 (.agg #[a1,a2,a3,a4]) 2).run Tryz.prog w = .ok a3 w:=fun a1 a2 a3 a4 w=>by kernel_rfl
 go_enter Tryz.func10,Tryz.ntmps10
 go_wp2_with (first
  | (go_at_call 9;refine (begun_two w).mono ?_;rintro e w1 ⟨L,s,σ,q,rfl,hσ,m1,t1,a1,hyq,b1,l1⟩;obtain ⟨sc,sa⟩:=sc_new (Z:=2) m1 t1 b1 l1;obtain ⟨y0,y1,y2,y3,y4,y5,y6,y7,y8⟩:=sc.sp.v;obtain ⟨_,hd⟩:=sc.hd;have g0:=hd.at0 0 rfl;have g1:=hd.at0 1 rfl;have g2:=hd.at0 2 rfl;have g3:=hd.at0 3 rfl;have g4:=hd.at0 4 rfl)
  | (go_at_call 11;refine (new2 _).mono ?_;rintro e w2 ⟨W2,rfl,rfl,b2⟩;obtain ⟨sm,sma⟩:=scm_new (wr:=false) (sc.grown b2) sa 2 (bgn_mi false a1 hyq)))
 obtain ⟨E,hE⟩ : ∃ E,w1.heap.size = E:=⟨_,rfl⟩
 rw [hE] at sm sma
 try rw [hE]
 obtain ⟨H,hH⟩ : ∃ H,E + 1 = H:=⟨_,rfl⟩
 rw [hH] at sm sma
 try rw [hH]
 obtain ⟨M,hM⟩ : ∃ M,W2.heap.size = M:=⟨_,rfl⟩
 rw [hM] at sm sma
 try rw [hM]
 have A0 : Hid (ScM w _ L E H M 2 s σ q false 0 0 (vals 2 z56 2) (yE (mw 2 0).κ) 9 (.see .see 0)):=sm
 have SA : Hid (ScMA w L E H M):=sma
 clear sm sma sc sa m1 t1 a1 hyq b1 l1 b2 hd hE hH hM g0 g1 g2 g3 g4 y0 y1 y2 y3 y4 y5 y6 y7 y8
 go_loopw [7] (fun i wr=>∃ (j : Nat) (s' : Mm) (σ' : Nat) (q' : Q) (μ : Mv) (r : Nat),i = .int .i64 j /\ j + mpot false 2 0 r q' μ <= 30 /\ μ.over? = false /\ σ' <= 1000 + j /\ ScM w wr L E H M 2 s' σ' q' false 0 0 (vals 2 z56 2) (yE (mw 2 0).κ) r μ) (fun i _=>60 - (intOf i).toNat)
 case atStart=>exact ⟨0,s,σ,q,.see .see 0,9,rfl,by simp [mpot,rst],rfl,by omega,A0.out⟩
 case round =>
  clear A0
  obtain ⟨j,s1,σ1,q1,μ,r,rfl,hj,ho,hσ1,f⟩:=hrel
  have hj3 : (j : Int) < 60:=by omega
  obtain ⟨q2,μ2,r2,ht,hp,mi,hrr,k⟩:=f.step SA.out (by omega) ho
  obtain ⟨y0,y1,y2,y3,y4,y5,y6,y7,y8⟩:=f.sc.sp.v
  cases hov : μ2.over? with
  | false =>
   have k:=k false hov
   go_wp2_with (go_at_call 12;refine k.mono ?_;rintro e w2 ⟨rfl,s2,f2,-⟩)
   go_roundw
   case rel=>exact ⟨j + 1,s2,σ1 + 1,q2,μ2,r2,by go_num,by omega,hov,by omega,f2⟩
   case measure=>simp [intOf];omega
  | true =>
   have k:=k true hov
   obtain ⟨o,τ,rfl⟩:=Mv.is_over hov
   rcases mi with ⟨rfl,hB,rfl,hy⟩ | ⟨h,-⟩
   · have hw : Wo (q2.sw 0) 1 58 1:=hB.sw
     have rd:=hB.read (h:=2) (by decide) (j:=1) (by decide) (σ1 + 1)
     rw [show vals 2 z56 2 1 = 6 from by decide] at rd
     have hwd:=hB.cm.wd
     clear hB
     go_wp2_with (first
      | (go_at_call 12;refine k.mono ?_;rintro e w2 ⟨rfl,s2,f2,-⟩;obtain ⟨z0,z1,z2,z3,z4,z5,z6,z7,z8⟩:=f2.sc.sp.v)
      | (go_at_call 16;refine f2.out.mono ?_;rintro e w3 ⟨rfl,rfl⟩)
      | (go_at_call 14;refine (f2.sc.where hw).mono ?_;rintro e w4 ⟨rfl,b4⟩;have f4:=f2.sc.grown b4;obtain ⟨u0,u1,u2,u3,u4,u5,u6,u7,u8⟩:=f4.sp.v)
      | (go_at_call 17;refine (f4.read SA.out.sa hwd (by omega) (by decide) rd).mono ?_;rintro e w5 ⟨rfl,s5,f5,-⟩))
     go_ret
     exact ⟨rfl,f5.sp.b⟩
   · cases h
end Go.Proofs.YtkgpffcnimmdkaaGreat
