import Derived.Test.YtlolfmoolgenpaaGreatAccCheck
import Derived.Test.YtlolfmoolgenpaaGreatAccLay
namespace Go.Proofs.YtlolfmoolgenpaaGreat
open Go.RowKit
set_option maxRecDepth 20000
set_option maxHeartbeats 400000 in
theorem adoes_see {w : World} {L : Loc} {s : Mm} {b o : Nat} {T : TypeId} {cs : Array Value} {t n k m : Nat} {g p r : Int} {a : CV} (h : MemAt w L s) (hi : AcAt w b o T cs a) (who : Int) (x : Nat) (G : Int) (hnx : a.nx = 0) (X : Mm -> CV -> Prop)
 (hc : ∀ w1 : World,MemAt w1 L s -> AcAt w1 b o T cs a -> Calls Tryz.prog 147 #[.pointer (some ⟨b,o,none⟩),.agg #[.int .i64 t,.int .i64 n,.int .i64 k,.int .i64 m,.int .i64 g,.int .i64 p,.int .i64 r,.pointer (some ⟨L.p,0,none⟩),.int .i64 who],.agg #[.int .i64 x,.int .i64 G]] w1 fun e w'=>e = .returned (.tuple #[]) /\ Cact L b o T cs w1 w' X) :
 Calls Tryz.prog 146 #[.pointer (some ⟨b,o,none⟩),.agg #[.int .i64 t,.int .i64 n,.int .i64 k,.int .i64 m,.int .i64 g,.int .i64 p,.int .i64 r,.pointer (some ⟨L.p,0,none⟩),.int .i64 who],.agg #[.int .i64 x,.int .i64 G]] w fun e w'=>e = .returned (.tuple #[]) /\ Cact L b o T cs w w' X:=by
 have m0:=(h.alloc (.cells #[.int .i64 t,.int .i64 n,.int .i64 k,.int .i64 m,.int .i64 g,.int .i64 p,.int .i64 r,.pointer (some ⟨L.p,0,none⟩),.int .i64 who] 27)).alloc (.cells #[.int .i64 x,.int .i64 G] 154)
 have i0:=(hi.grown (grow1 _ (.cells #[.int .i64 t,.int .i64 n,.int .i64 k,.int .i64 m,.int .i64 g,.int .i64 p,.int .i64 r,.pointer (some ⟨L.p,0,none⟩),.int .i64 who] 27))).grown (grow1 _ (.cells #[.int .i64 x,.int .i64 G] 154))
 have o0 : Only (L.and b) w ((w.alloc (.cells #[.int .i64 t,.int .i64 n,.int .i64 k,.int .i64 m,.int .i64 g,.int .i64 p,.int .i64 r,.pointer (some ⟨L.p,0,none⟩),.int .i64 who] 27)).alloc (.cells #[.int .i64 x,.int .i64 G] 154)):=((Only.refl _ _).alloc _).alloc _
 have v0 : BoxV ((w.alloc (.cells #[.int .i64 t,.int .i64 n,.int .i64 k,.int .i64 m,.int .i64 g,.int .i64 p,.int .i64 r,.pointer (some ⟨L.p,0,none⟩),.int .i64 who] 27)).alloc (.cells #[.int .i64 x,.int .i64 G] 154)) w.heap.size t n k m g p r L.p who:=BoxV.newB _
 have x0:=At.new2 w (.cells #[.int .i64 t,.int .i64 n,.int .i64 k,.int .i64 m,.int .i64 g,.int .i64 p,.int .i64 r,.pointer (some ⟨L.p,0,none⟩),.int .i64 who] 27) 154 [.int .i64 (x : Nat),.int .i64 G]
 have k0:=i0.c_nx
 rw [hnx] at k0
 obtain ⟨y0,y1,y2,y3,y4,y5,y6,y7,y8⟩:=id v0
 have u0:=x0.at0 0 rfl
 have u1:=x0.at0 1 rfl
 go_enter Tryz.func146,Tryz.ntmps146
 go_wp2_with (go_at_call 147;refine (hc _ m0 i0).mono ?_;rintro e w3 ⟨rfl,s3,cs3,a3,m3,o3,i3,q3,p3⟩)
 go_end0
 exact ⟨rfl,s3,cs3,a3,m3,o0.trans o3,i3,q3,p3⟩
set_option maxHeartbeats 400000 in
theorem adoes_ask {w : World} {L : Loc} {s : Mm} {b o : Nat} {T : TypeId} {cs : Array Value} {t n k m : Nat} {g p r : Int} {a : CV} (h : MemAt w L s) (hi : AcAt w b o T cs a) (who : Int) (x : Nat) (G : Int) (hnx : a.nx = 1) (X : Mm -> CV -> Prop)
 (hc : ∀ w1 : World,MemAt w1 L s -> AcAt w1 b o T cs a -> Calls Tryz.prog 148 #[.pointer (some ⟨b,o,none⟩),.agg #[.int .i64 t,.int .i64 n,.int .i64 k,.int .i64 m,.int .i64 g,.int .i64 p,.int .i64 r,.pointer (some ⟨L.p,0,none⟩),.int .i64 who]] w1 fun e w'=>e = .returned (.tuple #[]) /\ Cact L b o T cs w1 w' X) :
 Calls Tryz.prog 146 #[.pointer (some ⟨b,o,none⟩),.agg #[.int .i64 t,.int .i64 n,.int .i64 k,.int .i64 m,.int .i64 g,.int .i64 p,.int .i64 r,.pointer (some ⟨L.p,0,none⟩),.int .i64 who],.agg #[.int .i64 x,.int .i64 G]] w fun e w'=>e = .returned (.tuple #[]) /\ Cact L b o T cs w w' X:=by
 have m0:=(h.alloc (.cells #[.int .i64 t,.int .i64 n,.int .i64 k,.int .i64 m,.int .i64 g,.int .i64 p,.int .i64 r,.pointer (some ⟨L.p,0,none⟩),.int .i64 who] 27)).alloc (.cells #[.int .i64 x,.int .i64 G] 154)
 have i0:=(hi.grown (grow1 _ (.cells #[.int .i64 t,.int .i64 n,.int .i64 k,.int .i64 m,.int .i64 g,.int .i64 p,.int .i64 r,.pointer (some ⟨L.p,0,none⟩),.int .i64 who] 27))).grown (grow1 _ (.cells #[.int .i64 x,.int .i64 G] 154))
 have o0 : Only (L.and b) w ((w.alloc (.cells #[.int .i64 t,.int .i64 n,.int .i64 k,.int .i64 m,.int .i64 g,.int .i64 p,.int .i64 r,.pointer (some ⟨L.p,0,none⟩),.int .i64 who] 27)).alloc (.cells #[.int .i64 x,.int .i64 G] 154)):=((Only.refl _ _).alloc _).alloc _
 have v0 : BoxV ((w.alloc (.cells #[.int .i64 t,.int .i64 n,.int .i64 k,.int .i64 m,.int .i64 g,.int .i64 p,.int .i64 r,.pointer (some ⟨L.p,0,none⟩),.int .i64 who] 27)).alloc (.cells #[.int .i64 x,.int .i64 G] 154)) w.heap.size t n k m g p r L.p who:=BoxV.newB _
 have x0:=At.new2 w (.cells #[.int .i64 t,.int .i64 n,.int .i64 k,.int .i64 m,.int .i64 g,.int .i64 p,.int .i64 r,.pointer (some ⟨L.p,0,none⟩),.int .i64 who] 27) 154 [.int .i64 (x : Nat),.int .i64 G]
 have k0:=i0.c_nx
 rw [hnx] at k0
 obtain ⟨y0,y1,y2,y3,y4,y5,y6,y7,y8⟩:=id v0
 have u0:=x0.at0 0 rfl
 have u1:=x0.at0 1 rfl
 go_enter Tryz.func146,Tryz.ntmps146
 go_wp2_with (go_at_call 148;refine (hc _ m0 i0).mono ?_;rintro e w3 ⟨rfl,s3,cs3,a3,m3,o3,i3,q3,p3⟩)
 go_end0
 exact ⟨rfl,s3,cs3,a3,m3,o0.trans o3,i3,q3,p3⟩
set_option maxHeartbeats 400000 in
theorem adoes_load {w : World} {L : Loc} {s : Mm} {b o : Nat} {T : TypeId} {cs : Array Value} {t n k m : Nat} {g p r : Int} {a : CV} (h : MemAt w L s) (hi : AcAt w b o T cs a) (who : Int) (x : Nat) (G : Int) (hnx : a.nx = 2) (X : Mm -> CV -> Prop)
 (hc : ∀ w1 : World,MemAt w1 L s -> AcAt w1 b o T cs a -> Calls Tryz.prog 149 #[.pointer (some ⟨b,o,none⟩),.agg #[.int .i64 t,.int .i64 n,.int .i64 k,.int .i64 m,.int .i64 g,.int .i64 p,.int .i64 r,.pointer (some ⟨L.p,0,none⟩),.int .i64 who],.agg #[.int .i64 x,.int .i64 G]] w1 fun e w'=>e = .returned (.tuple #[]) /\ Cact L b o T cs w1 w' X) :
 Calls Tryz.prog 146 #[.pointer (some ⟨b,o,none⟩),.agg #[.int .i64 t,.int .i64 n,.int .i64 k,.int .i64 m,.int .i64 g,.int .i64 p,.int .i64 r,.pointer (some ⟨L.p,0,none⟩),.int .i64 who],.agg #[.int .i64 x,.int .i64 G]] w fun e w'=>e = .returned (.tuple #[]) /\ Cact L b o T cs w w' X:=by
 have m0:=(h.alloc (.cells #[.int .i64 t,.int .i64 n,.int .i64 k,.int .i64 m,.int .i64 g,.int .i64 p,.int .i64 r,.pointer (some ⟨L.p,0,none⟩),.int .i64 who] 27)).alloc (.cells #[.int .i64 x,.int .i64 G] 154)
 have i0:=(hi.grown (grow1 _ (.cells #[.int .i64 t,.int .i64 n,.int .i64 k,.int .i64 m,.int .i64 g,.int .i64 p,.int .i64 r,.pointer (some ⟨L.p,0,none⟩),.int .i64 who] 27))).grown (grow1 _ (.cells #[.int .i64 x,.int .i64 G] 154))
 have o0 : Only (L.and b) w ((w.alloc (.cells #[.int .i64 t,.int .i64 n,.int .i64 k,.int .i64 m,.int .i64 g,.int .i64 p,.int .i64 r,.pointer (some ⟨L.p,0,none⟩),.int .i64 who] 27)).alloc (.cells #[.int .i64 x,.int .i64 G] 154)):=((Only.refl _ _).alloc _).alloc _
 have v0 : BoxV ((w.alloc (.cells #[.int .i64 t,.int .i64 n,.int .i64 k,.int .i64 m,.int .i64 g,.int .i64 p,.int .i64 r,.pointer (some ⟨L.p,0,none⟩),.int .i64 who] 27)).alloc (.cells #[.int .i64 x,.int .i64 G] 154)) w.heap.size t n k m g p r L.p who:=BoxV.newB _
 have x0:=At.new2 w (.cells #[.int .i64 t,.int .i64 n,.int .i64 k,.int .i64 m,.int .i64 g,.int .i64 p,.int .i64 r,.pointer (some ⟨L.p,0,none⟩),.int .i64 who] 27) 154 [.int .i64 (x : Nat),.int .i64 G]
 have k0:=i0.c_nx
 rw [hnx] at k0
 obtain ⟨y0,y1,y2,y3,y4,y5,y6,y7,y8⟩:=id v0
 have u0:=x0.at0 0 rfl
 have u1:=x0.at0 1 rfl
 go_enter Tryz.func146,Tryz.ntmps146
 go_wp2_with (go_at_call 149;refine (hc _ m0 i0).mono ?_;rintro e w3 ⟨rfl,s3,cs3,a3,m3,o3,i3,q3,p3⟩)
 go_end0
 exact ⟨rfl,s3,cs3,a3,m3,o0.trans o3,i3,q3,p3⟩
set_option maxHeartbeats 400000 in
theorem adoes_check {w : World} {L : Loc} {s : Mm} {b o : Nat} {T : TypeId} {cs : Array Value} {t n k m : Nat} {g p r : Int} {a : CV} (h : MemAt w L s) (hi : AcAt w b o T cs a) (who : Int) (x : Nat) (G : Int) (hnx : a.nx = 3) (X : Mm -> CV -> Prop)
 (hc : ∀ w1 : World,MemAt w1 L s -> AcAt w1 b o T cs a -> Calls Tryz.prog 150 #[.pointer (some ⟨b,o,none⟩),.agg #[.int .i64 t,.int .i64 n,.int .i64 k,.int .i64 m,.int .i64 g,.int .i64 p,.int .i64 r,.pointer (some ⟨L.p,0,none⟩),.int .i64 who],.agg #[.int .i64 x,.int .i64 G]] w1 fun e w'=>e = .returned (.tuple #[]) /\ Cact L b o T cs w1 w' X) :
 Calls Tryz.prog 146 #[.pointer (some ⟨b,o,none⟩),.agg #[.int .i64 t,.int .i64 n,.int .i64 k,.int .i64 m,.int .i64 g,.int .i64 p,.int .i64 r,.pointer (some ⟨L.p,0,none⟩),.int .i64 who],.agg #[.int .i64 x,.int .i64 G]] w fun e w'=>e = .returned (.tuple #[]) /\ Cact L b o T cs w w' X:=by
 have m0:=(h.alloc (.cells #[.int .i64 t,.int .i64 n,.int .i64 k,.int .i64 m,.int .i64 g,.int .i64 p,.int .i64 r,.pointer (some ⟨L.p,0,none⟩),.int .i64 who] 27)).alloc (.cells #[.int .i64 x,.int .i64 G] 154)
 have i0:=(hi.grown (grow1 _ (.cells #[.int .i64 t,.int .i64 n,.int .i64 k,.int .i64 m,.int .i64 g,.int .i64 p,.int .i64 r,.pointer (some ⟨L.p,0,none⟩),.int .i64 who] 27))).grown (grow1 _ (.cells #[.int .i64 x,.int .i64 G] 154))
 have o0 : Only (L.and b) w ((w.alloc (.cells #[.int .i64 t,.int .i64 n,.int .i64 k,.int .i64 m,.int .i64 g,.int .i64 p,.int .i64 r,.pointer (some ⟨L.p,0,none⟩),.int .i64 who] 27)).alloc (.cells #[.int .i64 x,.int .i64 G] 154)):=((Only.refl _ _).alloc _).alloc _
 have v0 : BoxV ((w.alloc (.cells #[.int .i64 t,.int .i64 n,.int .i64 k,.int .i64 m,.int .i64 g,.int .i64 p,.int .i64 r,.pointer (some ⟨L.p,0,none⟩),.int .i64 who] 27)).alloc (.cells #[.int .i64 x,.int .i64 G] 154)) w.heap.size t n k m g p r L.p who:=BoxV.newB _
 have x0:=At.new2 w (.cells #[.int .i64 t,.int .i64 n,.int .i64 k,.int .i64 m,.int .i64 g,.int .i64 p,.int .i64 r,.pointer (some ⟨L.p,0,none⟩),.int .i64 who] 27) 154 [.int .i64 (x : Nat),.int .i64 G]
 have k0:=i0.c_nx
 rw [hnx] at k0
 obtain ⟨y0,y1,y2,y3,y4,y5,y6,y7,y8⟩:=id v0
 have u0:=x0.at0 0 rfl
 have u1:=x0.at0 1 rfl
 go_enter Tryz.func146,Tryz.ntmps146
 go_wp2_with (go_at_call 150;refine (hc _ m0 i0).mono ?_;rintro e w3 ⟨rfl,s3,cs3,a3,m3,o3,i3,q3,p3⟩)
 go_end0
 exact ⟨rfl,s3,cs3,a3,m3,o0.trans o3,i3,q3,p3⟩
set_option maxHeartbeats 400000 in
theorem adoes_stop {w : World} {L : Loc} {s : Mm} {b o : Nat} {T : TypeId} {cs : Array Value} {t n k m : Nat} {g p r : Int} {a : CV} (h : MemAt w L s) (hi : AcAt w b o T cs a) (who : Int) (x : Nat) (G : Int) (hnx : a.nx = 5) (X : Mm -> CV -> Prop)
 (hc : ∀ w1 : World,MemAt w1 L s -> AcAt w1 b o T cs a -> Calls Tryz.prog 151 #[.pointer (some ⟨b,o,none⟩),.agg #[.int .i64 t,.int .i64 n,.int .i64 k,.int .i64 m,.int .i64 g,.int .i64 p,.int .i64 r,.pointer (some ⟨L.p,0,none⟩),.int .i64 who],.agg #[.int .i64 x,.int .i64 G]] w1 fun e w'=>e = .returned (.tuple #[]) /\ Cact L b o T cs w1 w' X) :
 Calls Tryz.prog 146 #[.pointer (some ⟨b,o,none⟩),.agg #[.int .i64 t,.int .i64 n,.int .i64 k,.int .i64 m,.int .i64 g,.int .i64 p,.int .i64 r,.pointer (some ⟨L.p,0,none⟩),.int .i64 who],.agg #[.int .i64 x,.int .i64 G]] w fun e w'=>e = .returned (.tuple #[]) /\ Cact L b o T cs w w' X:=by
 have m0:=(h.alloc (.cells #[.int .i64 t,.int .i64 n,.int .i64 k,.int .i64 m,.int .i64 g,.int .i64 p,.int .i64 r,.pointer (some ⟨L.p,0,none⟩),.int .i64 who] 27)).alloc (.cells #[.int .i64 x,.int .i64 G] 154)
 have i0:=(hi.grown (grow1 _ (.cells #[.int .i64 t,.int .i64 n,.int .i64 k,.int .i64 m,.int .i64 g,.int .i64 p,.int .i64 r,.pointer (some ⟨L.p,0,none⟩),.int .i64 who] 27))).grown (grow1 _ (.cells #[.int .i64 x,.int .i64 G] 154))
 have o0 : Only (L.and b) w ((w.alloc (.cells #[.int .i64 t,.int .i64 n,.int .i64 k,.int .i64 m,.int .i64 g,.int .i64 p,.int .i64 r,.pointer (some ⟨L.p,0,none⟩),.int .i64 who] 27)).alloc (.cells #[.int .i64 x,.int .i64 G] 154)):=((Only.refl _ _).alloc _).alloc _
 have v0 : BoxV ((w.alloc (.cells #[.int .i64 t,.int .i64 n,.int .i64 k,.int .i64 m,.int .i64 g,.int .i64 p,.int .i64 r,.pointer (some ⟨L.p,0,none⟩),.int .i64 who] 27)).alloc (.cells #[.int .i64 x,.int .i64 G] 154)) w.heap.size t n k m g p r L.p who:=BoxV.newB _
 have x0:=At.new2 w (.cells #[.int .i64 t,.int .i64 n,.int .i64 k,.int .i64 m,.int .i64 g,.int .i64 p,.int .i64 r,.pointer (some ⟨L.p,0,none⟩),.int .i64 who] 27) 154 [.int .i64 (x : Nat),.int .i64 G]
 have k0:=i0.c_nx
 rw [hnx] at k0
 obtain ⟨y0,y1,y2,y3,y4,y5,y6,y7,y8⟩:=id v0
 have u0:=x0.at0 0 rfl
 have u1:=x0.at0 1 rfl
 go_enter Tryz.func146,Tryz.ntmps146
 go_wp2_with (go_at_call 151;refine (hc _ m0 i0).mono ?_;rintro e w3 ⟨rfl,s3,cs3,a3,m3,o3,i3,q3,p3⟩)
 go_end0
 exact ⟨rfl,s3,cs3,a3,m3,o0.trans o3,i3,q3,p3⟩
set_option maxHeartbeats 400000 in
theorem adoes_lay {w : World} {L : Loc} {s : Mm} {b o : Nat} {T : TypeId} {cs : Array Value} {t n k m : Nat} {g p r : Int} {a : CV} (h : MemAt w L s) (hi : AcAt w b o T cs a) (who : Int) (x : Nat) (G : Int) (hnx : a.nx = 6) (X : Mm -> CV -> Prop)
 (hc : ∀ w1 : World,MemAt w1 L s -> AcAt w1 b o T cs a -> Calls Tryz.prog 152 #[.pointer (some ⟨b,o,none⟩),.agg #[.int .i64 t,.int .i64 n,.int .i64 k,.int .i64 m,.int .i64 g,.int .i64 p,.int .i64 r,.pointer (some ⟨L.p,0,none⟩),.int .i64 who]] w1 fun e w'=>e = .returned (.tuple #[]) /\ Cact L b o T cs w1 w' X) :
 Calls Tryz.prog 146 #[.pointer (some ⟨b,o,none⟩),.agg #[.int .i64 t,.int .i64 n,.int .i64 k,.int .i64 m,.int .i64 g,.int .i64 p,.int .i64 r,.pointer (some ⟨L.p,0,none⟩),.int .i64 who],.agg #[.int .i64 x,.int .i64 G]] w fun e w'=>e = .returned (.tuple #[]) /\ Cact L b o T cs w w' X:=by
 have m0:=(h.alloc (.cells #[.int .i64 t,.int .i64 n,.int .i64 k,.int .i64 m,.int .i64 g,.int .i64 p,.int .i64 r,.pointer (some ⟨L.p,0,none⟩),.int .i64 who] 27)).alloc (.cells #[.int .i64 x,.int .i64 G] 154)
 have i0:=(hi.grown (grow1 _ (.cells #[.int .i64 t,.int .i64 n,.int .i64 k,.int .i64 m,.int .i64 g,.int .i64 p,.int .i64 r,.pointer (some ⟨L.p,0,none⟩),.int .i64 who] 27))).grown (grow1 _ (.cells #[.int .i64 x,.int .i64 G] 154))
 have o0 : Only (L.and b) w ((w.alloc (.cells #[.int .i64 t,.int .i64 n,.int .i64 k,.int .i64 m,.int .i64 g,.int .i64 p,.int .i64 r,.pointer (some ⟨L.p,0,none⟩),.int .i64 who] 27)).alloc (.cells #[.int .i64 x,.int .i64 G] 154)):=((Only.refl _ _).alloc _).alloc _
 have v0 : BoxV ((w.alloc (.cells #[.int .i64 t,.int .i64 n,.int .i64 k,.int .i64 m,.int .i64 g,.int .i64 p,.int .i64 r,.pointer (some ⟨L.p,0,none⟩),.int .i64 who] 27)).alloc (.cells #[.int .i64 x,.int .i64 G] 154)) w.heap.size t n k m g p r L.p who:=BoxV.newB _
 have x0:=At.new2 w (.cells #[.int .i64 t,.int .i64 n,.int .i64 k,.int .i64 m,.int .i64 g,.int .i64 p,.int .i64 r,.pointer (some ⟨L.p,0,none⟩),.int .i64 who] 27) 154 [.int .i64 (x : Nat),.int .i64 G]
 have k0:=i0.c_nx
 rw [hnx] at k0
 obtain ⟨y0,y1,y2,y3,y4,y5,y6,y7,y8⟩:=id v0
 have u0:=x0.at0 0 rfl
 have u1:=x0.at0 1 rfl
 go_enter Tryz.func146,Tryz.ntmps146
 go_wp2_with (go_at_call 152;refine (hc _ m0 i0).mono ?_;rintro e w3 ⟨rfl,s3,cs3,a3,m3,o3,i3,q3,p3⟩)
 go_end0
 exact ⟨rfl,s3,cs3,a3,m3,o0.trans o3,i3,q3,p3⟩
set_option maxHeartbeats 400000 in
theorem acstep_go {w : World} {L : Loc} {s : Mm} {b o : Nat} {T : TypeId} {cs : Array Value} {t n k m : Nat} {g p r : Int} {a : CV} (h : MemAt w L s) (hi : AcAt w b o T cs a) (who : Int) (hk : a.kd = 1 \/ a.kd = 2 \/ a.kd = 3) (hG : Good t n k m g p r) (hlen : arenaLen t n k m <= s.n) {x : Nat} {G : Int} (hh : HandIs a.nu x G) (hx : x < n) (hnx : ¬ a.nx = 7) (X : Mm -> CV -> Prop) (d : Bool) (hX : ∀ s' a',X s' a' -> (a'.nx == 7) = d)
 (hc : ∀ w1 : World,MemAt w1 L s -> AcAt w1 b o T cs a -> Calls Tryz.prog 146 #[.pointer (some ⟨b,o,none⟩),.agg #[.int .i64 t,.int .i64 n,.int .i64 k,.int .i64 m,.int .i64 g,.int .i64 p,.int .i64 r,.pointer (some ⟨L.p,0,none⟩),.int .i64 who],.agg #[.int .i64 x,.int .i64 G]] w1 fun e w'=>e = .returned (.tuple #[]) /\ Cact L b o T cs w1 w' X) :
 Calls Tryz.prog 142 #[.pointer (some ⟨b,o,none⟩),.agg #[.int .i64 t,.int .i64 n,.int .i64 k,.int .i64 m,.int .i64 g,.int .i64 p,.int .i64 r,.pointer (some ⟨L.p,0,none⟩),.int .i64 who]] w fun e w'=>e = .returned (.bool d) /\ Cact L b o T cs w w' X:=by
 have hw:=hh.call
 have kn:=fun w=>aknown_yes hk w
 have ds:=fun (w' : World) (m' : MemAt w' L s)=>astands_any (x:=x) m' hG hlen who
 rw [decide_eq_true (by omega)] at ds
 have i0:=hi.grown (grow1 _ (.cells #[.int .i64 t,.int .i64 n,.int .i64 k,.int .i64 m,.int .i64 g,.int .i64 p,.int .i64 r,.pointer (some ⟨L.p,0,none⟩),.int .i64 who] 27))
 have k0:=i0.c_nx
 have k1:=i0.c_nu
 clear hh
 go_enter Tryz.func142,Tryz.ntmps142
 go_wp2_with (first
  | (go_at_call 117;refine (hw _).mono ?_;rintro e w1 ⟨rfl,b1⟩;have i1:=(i0.grown b1).grown (grow1 _ (.cells #[.int .i64 x,.int .i64 G] 154));have v1:=(BoxV.new.grown b1).grown (grow1 _ (.cells #[.int .i64 x,.int .i64 G] 154));have m1:=((h.alloc _).below b1).alloc (.cells #[.int .i64 x,.int .i64 G] 154);have o1 : Only (L.and b) w (w1.alloc (.cells #[.int .i64 x,.int .i64 G] 154)):=(((Only.refl _ _).alloc _).trans (Only.ofGrown b1)).alloc (.cells #[.int .i64 x,.int .i64 G] 154);have x1:=At.new w1 154 [.int .i64 (x : Nat),.int .i64 G];have u0:=x1.at0 0 rfl;have u1:=x1.at0 1 rfl;have kk:=i1.c_kd;obtain ⟨y0,y1,y2,y3,y4,y5,y6,y7,y8⟩:=id v1)
  | (go_at_call 143;refine (kn _).mono ?_;rintro e w9 ⟨rfl,rfl⟩)
  | (go_at_call 145;refine (ds _ m1).mono ?_;rintro e w2 ⟨rfl,b2⟩;have i2:=i1.grown b2;have v2:=v1.grown b2;have m2:=m1.below b2;have x2:=x1.grown b2;have o2:=o1.trans (Only.ofGrown b2);have q0:=x2.at0 0 rfl;have q1:=x2.at0 1 rfl;obtain ⟨z0,z1,z2,z3,z4,z5,z6,z7,z8⟩:=id v2;have kf:=i2.fz)
  | (go_at_call 146;refine (hc _ m2 i2).mono ?_;rintro e w3 ⟨rfl,s3,cs3,a3,m3,o3,i3,q3,p3⟩;have k3:=i3.c_nx))
 go_ret
 exact ⟨ret_bool (hX _ _ p3),s3,cs3,a3,m3,o2.trans o3,i3,q3,p3⟩
theorem acstep_out {w : World} {L : Loc} {s : Mm} {b o : Nat} {T : TypeId} {cs : Array Value} {t n k m : Nat} {g p r : Int} {a : CV} (h : MemAt w L s) (hi : AcAt w b o T cs a) (who : Int) (hk : a.kd = 1 \/ a.kd = 2 \/ a.kd = 3) (hG : Good t n k m g p r) (hlen : arenaLen t n k m <= s.n) {x : Nat} {G : Int} (hh : HandIs a.nu x G) (hb : ¬ L.has b) (hx : n <= x) (hnx : ¬ a.nx = 7) {σ : Nat} (hσ : s.steps = σ) :
 Calls Tryz.prog 142 #[.pointer (some ⟨b,o,none⟩),.agg #[.int .i64 t,.int .i64 n,.int .i64 k,.int .i64 m,.int .i64 g,.int .i64 p,.int .i64 r,.pointer (some ⟨L.p,0,none⟩),.int .i64 who]] w fun e w'=>e = .returned (.bool true) /\ Cact L b o T cs w w' (fun s' a'=>s' = s /\ a' = { a with nx:=7,E:=3,H:=0,V:=0,St:=σ }):=by
 have hw:=hh.call
 have kn:=fun w=>aknown_yes hk w
 have ds:=fun (w' : World) (m' : MemAt w' L s)=>astands_any (x:=x) m' hG hlen who
 rw [decide_eq_false (by omega)] at ds
 have i0:=hi.grown (grow1 _ (.cells #[.int .i64 t,.int .i64 n,.int .i64 k,.int .i64 m,.int .i64 g,.int .i64 p,.int .i64 r,.pointer (some ⟨L.p,0,none⟩),.int .i64 who] 27))
 have k0:=i0.c_nx
 have k1:=i0.c_nu
 clear hh
 go_enter Tryz.func142,Tryz.ntmps142
 go_wp2_with (first
  | (go_at_call 117;refine (hw _).mono ?_;rintro e w1 ⟨rfl,b1⟩;have i1:=(i0.grown b1).grown (grow1 _ (.cells #[.int .i64 x,.int .i64 G] 154));have v1:=(BoxV.new.grown b1).grown (grow1 _ (.cells #[.int .i64 x,.int .i64 G] 154));have m1:=((h.alloc _).below b1).alloc (.cells #[.int .i64 x,.int .i64 G] 154);have o1 : Only (L.and b) w (w1.alloc (.cells #[.int .i64 x,.int .i64 G] 154)):=(((Only.refl _ _).alloc _).trans (Only.ofGrown b1)).alloc (.cells #[.int .i64 x,.int .i64 G] 154);have x1:=At.new w1 154 [.int .i64 (x : Nat),.int .i64 G];have u0:=x1.at0 0 rfl;have u1:=x1.at0 1 rfl;have kk:=i1.c_kd;obtain ⟨y0,y1,y2,y3,y4,y5,y6,y7,y8⟩:=id v1)
  | (go_at_call 143;refine (kn _).mono ?_;rintro e w9 ⟨rfl,rfl⟩)
  | (go_at_call 145;refine (ds _ m1).mono ?_;rintro e w2 ⟨rfl,b2⟩;have i2:=i1.grown b2;have v2:=v1.grown b2;have m2:=m1.below b2;have x2:=x1.grown b2;have o2:=o1.trans (Only.ofGrown b2);have q0:=x2.at0 0 rfl;have q1:=x2.at0 1 rfl;obtain ⟨z0,z1,z2,z3,z4,z5,z6,z7,z8⟩:=id v2;have kf:=i2.fz)
  | (go_at_call 17;refine (now_any m2 _ _ _ _ _ _ _ _ σ hσ).mono ?_;rintro e w8 ⟨rfl,b8⟩)
  | (go_at_call 144;refine (aend (m2.below b8) hb (i2.grown b8) 3 0 σ).mono ?_;rintro e w3 ⟨rfl,s3,cs3,a3,m3,o3,i3,q3,rfl,rfl⟩;have k3 : w3.cell? ⟨b,o,none⟩ = some (.int .i64 7):=i3.c_nx))
 go_ret
 exact ⟨rfl,_,cs3,_,m3,(o2.trans (Only.ofGrown b8)).trans o3,i3,q3,rfl,rfl⟩
theorem acstep_none {w : World} {L : Loc} {s : Mm} {b o : Nat} {T : TypeId} {cs : Array Value} {t n k m : Nat} {g p r : Int} {a : CV} (h : MemAt w L s) (hi : AcAt w b o T cs a) (who : Int) (hk : a.kd = 1 \/ a.kd = 2 \/ a.kd = 3) (hb : ¬ L.has b) (h0 : 0 <= a.nu) (h1 : a.nu <= 18446744073709551615) (hn : a.nu < 65536 \/ 4294967296 <= a.nu) (hnx : ¬ a.nx = 7) {σ : Nat} (hσ : s.steps = σ) :
 Calls Tryz.prog 142 #[.pointer (some ⟨b,o,none⟩),.agg #[.int .i64 t,.int .i64 n,.int .i64 k,.int .i64 m,.int .i64 g,.int .i64 p,.int .i64 r,.pointer (some ⟨L.p,0,none⟩),.int .i64 who]] w fun e w'=>e = .returned (.bool true) /\ Cact L b o T cs w w' (fun s' a'=>s' = s /\ a' = { a with nx:=7,E:=3,H:=0,V:=0,St:=σ }):=by
 have hw:=fun w=>handle_no a.nu w h0 h1 hn
 have kn:=fun w=>aknown_yes hk w
 have i0:=hi.grown (grow1 _ (.cells #[.int .i64 t,.int .i64 n,.int .i64 k,.int .i64 m,.int .i64 g,.int .i64 p,.int .i64 r,.pointer (some ⟨L.p,0,none⟩),.int .i64 who] 27))
 have k0:=i0.c_nx
 have k1:=i0.c_nu
 clear hn
 go_enter Tryz.func142,Tryz.ntmps142
 go_wp2_with (first
  | (go_at_call 117;refine (hw _).mono ?_;rintro e w1 ⟨rfl,b1⟩;have i1:=(i0.grown b1).grown (grow1 _ (.cells #[.int .i64 0,.int .i64 0] 154));have v1:=(BoxV.new.grown b1).grown (grow1 _ (.cells #[.int .i64 0,.int .i64 0] 154));have m1:=((h.alloc _).below b1).alloc (.cells #[.int .i64 0,.int .i64 0] 154);have o1 : Only (L.and b) w (w1.alloc (.cells #[.int .i64 0,.int .i64 0] 154)):=(((Only.refl _ _).alloc _).trans (Only.ofGrown b1)).alloc (.cells #[.int .i64 0,.int .i64 0] 154);have x1:=At.new w1 154 [.int .i64 0,.int .i64 0];have u0:=x1.at0 0 rfl;have u1:=x1.at0 1 rfl;have kk:=i1.c_kd;obtain ⟨y0,y1,y2,y3,y4,y5,y6,y7,y8⟩:=id v1)
  | (go_at_call 143;refine (kn _).mono ?_;rintro e w9 ⟨rfl,rfl⟩)
  | (go_at_call 17;refine (now_any m1 _ _ _ _ _ _ _ _ σ hσ).mono ?_;rintro e w8 ⟨rfl,b8⟩)
  | (go_at_call 144;refine (aend (m1.below b8) hb (i1.grown b8) 3 0 σ).mono ?_;rintro e w3 ⟨rfl,s3,cs3,a3,m3,o3,i3,q3,rfl,rfl⟩;have k3 : w3.cell? ⟨b,o,none⟩ = some (.int .i64 7):=i3.c_nx))
 go_ret
 exact ⟨rfl,_,cs3,_,m3,(o1.trans (Only.ofGrown b8)).trans o3,i3,q3,rfl,rfl⟩
end Go.Proofs.YtlolfmoolgenpaaGreat
