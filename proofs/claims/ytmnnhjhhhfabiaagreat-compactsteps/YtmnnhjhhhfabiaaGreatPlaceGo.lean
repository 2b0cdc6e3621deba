import Derived.Test.YtmnnhjhhhfabiaaGreatPlaceLook
namespace Go.Proofs.YtmnnhjhhhfabiaaGreat
open Go.RowKit
set_option maxRecDepth 20000
theorem Ph {w : World} {L : Loc} {s : Mm} {b o : Nat} {T : TypeId} {cs : Array Value} {sn ch ws sa sb nx' O8 ch' ws' sa' sb' : Int} {s' : Mm} {κ : Nat} (h : Z9 w L s) (hi : At w b o T cs (Y7 0 κ sn ch ws sa sb)) (c0 c1 c2 c3 c4 c5 c6 who : Int) (hmay : may c0 c1 c2 c3 c4 c5 c6 = true) (hκ : κ < 4) (d : Bool) (hd : decide (7 <= nx') = d)
 (hc : ∀ w1 : World,Z9 w1 L s -> At w1 b o T cs (Y7 0 κ sn ch ws sa sb) -> Calls Tryz.prog 162 #[pP b o,eV c0 c1 c2 c3 c4 c5 c6 L.p who] w1 fun e w'=>e = .returned (.tuple #[]) /\ Z9 w' L s' /\ Only (L.and b) w1 w' /\ ∃ cs',At w' b o T cs' (Y7 nx' κ O8 ch' ws' sa' sb') /\ Same o 7 cs cs') :
 Calls Tryz.prog 118 #[pP b o,eV c0 c1 c2 c3 c4 c5 c6 L.p who] w fun e w'=>e = .returned (.bool d) /\ Z9 w' L s' /\ Only (L.and b) w w' /\ ∃ cs',At w' b o T cs' (Y7 nx' κ O8 ch' ws' sa' sb') /\ Same o 7 cs cs':=by
 have hq : ((room κ : Int) == 0) = false:=by have:=Zv κ;simp;omega
 have cy:=fun w=>XV c0 c1 c2 c3 c4 c5 c6 w
 rw [hmay] at cy
 have i1:=hi.grown (Z5 (Below.refl _ _) (eO c0 c1 c2 c3 c4 c5 c6 L.p who))
 have m1:=h.alloc (eO c0 c1 c2 c3 c4 c5 c6 L.p who)
 have v1 : ZV (w.alloc (eO c0 c1 c2 c3 c4 c5 c6 L.p who)) w.heap.size c0 c1 c2 c3 c4 c5 c6 L.p who:=ZV.new
 have o1 : Only (L.and b) w (w.alloc (eO c0 c1 c2 c3 c4 c5 c6 L.p who)):=(Only.refl _ _).alloc _
 have k0:=i1.cell0 rfl
 have k1:=i1.cell 1 rfl
 go_enter Tryz.func118,Tryz.ntmps118
 go_wp2_with (first
  | (go_at_call 122;refine (YU κ hκ _).mono ?_;rintro e w2 ⟨rfl,rfl⟩)
  | (go_at_call 66;refine (cy _).mono ?_;rintro e w3 ⟨rfl,b3⟩;have i3:=i1.grown b3;have m3:=m1.below b3;have v3:=v1.grown b3;obtain ⟨z0,z1,z2,z3,z4,z5,z6,z7,z8⟩:=id v3;have q0:=i3.cell0 rfl)
  | (go_at_call 162;refine (hc _ m3 i3).mono ?_;rintro e w4 ⟨rfl,m4,o4,EY,i4,s4⟩;have r0:=i4.cell0 rfl))
 go_ret
 exact ⟨rfl,m4,(o1.trans (Only.ZZ b3)).trans o4,EY,i4,s4⟩
theorem UM {w : World} {L : Loc} {s : Mm} {b o : Nat} {T : TypeId} {cs : Array Value} {sn ch ws sa sb nx' O8 ch' ws' sa' sb' : Int} {s' : Mm} {κ : Nat} (h : Z9 w L s) (hi : At w b o T cs (Y7 1 κ sn ch ws sa sb)) (c0 c1 c2 c3 c4 c5 c6 who : Int) (hmay : may c0 c1 c2 c3 c4 c5 c6 = true) (hκ : κ < 4) (d : Bool) (hd : decide (7 <= nx') = d)
 (hc : ∀ w1 : World,Z9 w1 L s -> At w1 b o T cs (Y7 1 κ sn ch ws sa sb) -> Calls Tryz.prog 163 #[pP b o,eV c0 c1 c2 c3 c4 c5 c6 L.p who] w1 fun e w'=>e = .returned (.tuple #[]) /\ Z9 w' L s' /\ Only (L.and b) w1 w' /\ ∃ cs',At w' b o T cs' (Y7 nx' κ O8 ch' ws' sa' sb') /\ Same o 7 cs cs') :
 Calls Tryz.prog 118 #[pP b o,eV c0 c1 c2 c3 c4 c5 c6 L.p who] w fun e w'=>e = .returned (.bool d) /\ Z9 w' L s' /\ Only (L.and b) w w' /\ ∃ cs',At w' b o T cs' (Y7 nx' κ O8 ch' ws' sa' sb') /\ Same o 7 cs cs':=by
 have hq : ((room κ : Int) == 0) = false:=by have:=Zv κ;simp;omega
 have cy:=fun w=>XV c0 c1 c2 c3 c4 c5 c6 w
 rw [hmay] at cy
 have i1:=hi.grown (Z5 (Below.refl _ _) (eO c0 c1 c2 c3 c4 c5 c6 L.p who))
 have m1:=h.alloc (eO c0 c1 c2 c3 c4 c5 c6 L.p who)
 have v1 : ZV (w.alloc (eO c0 c1 c2 c3 c4 c5 c6 L.p who)) w.heap.size c0 c1 c2 c3 c4 c5 c6 L.p who:=ZV.new
 have o1 : Only (L.and b) w (w.alloc (eO c0 c1 c2 c3 c4 c5 c6 L.p who)):=(Only.refl _ _).alloc _
 have k0:=i1.cell0 rfl
 have k1:=i1.cell 1 rfl
 go_enter Tryz.func118,Tryz.ntmps118
 go_wp2_with (first
  | (go_at_call 122;refine (YU κ hκ _).mono ?_;rintro e w2 ⟨rfl,rfl⟩)
  | (go_at_call 66;refine (cy _).mono ?_;rintro e w3 ⟨rfl,b3⟩;have i3:=i1.grown b3;have m3:=m1.below b3;have v3:=v1.grown b3;obtain ⟨z0,z1,z2,z3,z4,z5,z6,z7,z8⟩:=id v3;have q0:=i3.cell0 rfl)
  | (go_at_call 163;refine (hc _ m3 i3).mono ?_;rintro e w4 ⟨rfl,m4,o4,EY,i4,s4⟩;have r0:=i4.cell0 rfl))
 go_ret
 exact ⟨rfl,m4,(o1.trans (Only.ZZ b3)).trans o4,EY,i4,s4⟩
theorem Qp {w : World} {L : Loc} {s : Mm} {b o : Nat} {T : TypeId} {cs : Array Value} {sn ch ws sa sb nx' O8 ch' ws' sa' sb' : Int} {s' : Mm} {κ : Nat} (h : Z9 w L s) (hi : At w b o T cs (Y7 2 κ sn ch ws sa sb)) (c0 c1 c2 c3 c4 c5 c6 who : Int) (hmay : may c0 c1 c2 c3 c4 c5 c6 = true) (hκ : κ < 4) (d : Bool) (hd : decide (7 <= nx') = d)
 (hc : ∀ w1 : World,Z9 w1 L s -> At w1 b o T cs (Y7 2 κ sn ch ws sa sb) -> Calls Tryz.prog 164 #[pP b o,eV c0 c1 c2 c3 c4 c5 c6 L.p who] w1 fun e w'=>e = .returned (.tuple #[]) /\ Z9 w' L s' /\ Only (L.and b) w1 w' /\ ∃ cs',At w' b o T cs' (Y7 nx' κ O8 ch' ws' sa' sb') /\ Same o 7 cs cs') :
 Calls Tryz.prog 118 #[pP b o,eV c0 c1 c2 c3 c4 c5 c6 L.p who] w fun e w'=>e = .returned (.bool d) /\ Z9 w' L s' /\ Only (L.and b) w w' /\ ∃ cs',At w' b o T cs' (Y7 nx' κ O8 ch' ws' sa' sb') /\ Same o 7 cs cs':=by
 have hq : ((room κ : Int) == 0) = false:=by have:=Zv κ;simp;omega
 have cy:=fun w=>XV c0 c1 c2 c3 c4 c5 c6 w
 rw [hmay] at cy
 have i1:=hi.grown (Z5 (Below.refl _ _) (eO c0 c1 c2 c3 c4 c5 c6 L.p who))
 have m1:=h.alloc (eO c0 c1 c2 c3 c4 c5 c6 L.p who)
 have v1 : ZV (w.alloc (eO c0 c1 c2 c3 c4 c5 c6 L.p who)) w.heap.size c0 c1 c2 c3 c4 c5 c6 L.p who:=ZV.new
 have o1 : Only (L.and b) w (w.alloc (eO c0 c1 c2 c3 c4 c5 c6 L.p who)):=(Only.refl _ _).alloc _
 have k0:=i1.cell0 rfl
 have k1:=i1.cell 1 rfl
 go_enter Tryz.func118,Tryz.ntmps118
 go_wp2_with (first
  | (go_at_call 122;refine (YU κ hκ _).mono ?_;rintro e w2 ⟨rfl,rfl⟩)
  | (go_at_call 66;refine (cy _).mono ?_;rintro e w3 ⟨rfl,b3⟩;have i3:=i1.grown b3;have m3:=m1.below b3;have v3:=v1.grown b3;obtain ⟨z0,z1,z2,z3,z4,z5,z6,z7,z8⟩:=id v3;have q0:=i3.cell0 rfl)
  | (go_at_call 164;refine (hc _ m3 i3).mono ?_;rintro e w4 ⟨rfl,m4,o4,EY,i4,s4⟩;have r0:=i4.cell0 rfl))
 go_ret
 exact ⟨rfl,m4,(o1.trans (Only.ZZ b3)).trans o4,EY,i4,s4⟩
theorem Qo {w : World} {L : Loc} {s : Mm} {b o : Nat} {T : TypeId} {cs : Array Value} {sn ch ws sa sb nx' O8 ch' ws' sa' sb' : Int} {s' : Mm} {κ : Nat} (h : Z9 w L s) (hi : At w b o T cs (Y7 3 κ sn ch ws sa sb)) (c0 c1 c2 c3 c4 c5 c6 who : Int) (hmay : may c0 c1 c2 c3 c4 c5 c6 = true) (hκ : κ < 4) (d : Bool) (hd : decide (7 <= nx') = d)
 (hc : ∀ w1 : World,Z9 w1 L s -> At w1 b o T cs (Y7 3 κ sn ch ws sa sb) -> Calls Tryz.prog 165 #[pP b o,eV c0 c1 c2 c3 c4 c5 c6 L.p who] w1 fun e w'=>e = .returned (.tuple #[]) /\ Z9 w' L s' /\ Only (L.and b) w1 w' /\ ∃ cs',At w' b o T cs' (Y7 nx' κ O8 ch' ws' sa' sb') /\ Same o 7 cs cs') :
 Calls Tryz.prog 118 #[pP b o,eV c0 c1 c2 c3 c4 c5 c6 L.p who] w fun e w'=>e = .returned (.bool d) /\ Z9 w' L s' /\ Only (L.and b) w w' /\ ∃ cs',At w' b o T cs' (Y7 nx' κ O8 ch' ws' sa' sb') /\ Same o 7 cs cs':=by
 have hq : ((room κ : Int) == 0) = false:=by have:=Zv κ;simp;omega
 have cy:=fun w=>XV c0 c1 c2 c3 c4 c5 c6 w
 rw [hmay] at cy
 have i1:=hi.grown (Z5 (Below.refl _ _) (eO c0 c1 c2 c3 c4 c5 c6 L.p who))
 have m1:=h.alloc (eO c0 c1 c2 c3 c4 c5 c6 L.p who)
 have v1 : ZV (w.alloc (eO c0 c1 c2 c3 c4 c5 c6 L.p who)) w.heap.size c0 c1 c2 c3 c4 c5 c6 L.p who:=ZV.new
 have o1 : Only (L.and b) w (w.alloc (eO c0 c1 c2 c3 c4 c5 c6 L.p who)):=(Only.refl _ _).alloc _
 have k0:=i1.cell0 rfl
 have k1:=i1.cell 1 rfl
 go_enter Tryz.func118,Tryz.ntmps118
 go_wp2_with (first
  | (go_at_call 122;refine (YU κ hκ _).mono ?_;rintro e w2 ⟨rfl,rfl⟩)
  | (go_at_call 66;refine (cy _).mono ?_;rintro e w3 ⟨rfl,b3⟩;have i3:=i1.grown b3;have m3:=m1.below b3;have v3:=v1.grown b3;obtain ⟨z0,z1,z2,z3,z4,z5,z6,z7,z8⟩:=id v3;have q0:=i3.cell0 rfl)
  | (go_at_call 165;refine (hc _ m3 i3).mono ?_;rintro e w4 ⟨rfl,m4,o4,EY,i4,s4⟩;have r0:=i4.cell0 rfl))
 go_ret
 exact ⟨rfl,m4,(o1.trans (Only.ZZ b3)).trans o4,EY,i4,s4⟩
theorem Qn {w : World} {L : Loc} {s : Mm} {b o : Nat} {T : TypeId} {cs : Array Value} {sn ch ws sa sb nx' O8 ch' ws' sa' sb' : Int} {s' : Mm} {κ : Nat} (h : Z9 w L s) (hi : At w b o T cs (Y7 4 κ sn ch ws sa sb)) (c0 c1 c2 c3 c4 c5 c6 who : Int) (hmay : may c0 c1 c2 c3 c4 c5 c6 = true) (hκ : κ < 4) (d : Bool) (hd : decide (7 <= nx') = d)
 (hc : ∀ w1 : World,Z9 w1 L s -> At w1 b o T cs (Y7 4 κ sn ch ws sa sb) -> Calls Tryz.prog 166 #[pP b o,eV c0 c1 c2 c3 c4 c5 c6 L.p who] w1 fun e w'=>e = .returned (.tuple #[]) /\ Z9 w' L s' /\ Only (L.and b) w1 w' /\ ∃ cs',At w' b o T cs' (Y7 nx' κ O8 ch' ws' sa' sb') /\ Same o 7 cs cs') :
 Calls Tryz.prog 118 #[pP b o,eV c0 c1 c2 c3 c4 c5 c6 L.p who] w fun e w'=>e = .returned (.bool d) /\ Z9 w' L s' /\ Only (L.and b) w w' /\ ∃ cs',At w' b o T cs' (Y7 nx' κ O8 ch' ws' sa' sb') /\ Same o 7 cs cs':=by
 have hq : ((room κ : Int) == 0) = false:=by have:=Zv κ;simp;omega
 have cy:=fun w=>XV c0 c1 c2 c3 c4 c5 c6 w
 rw [hmay] at cy
 have i1:=hi.grown (Z5 (Below.refl _ _) (eO c0 c1 c2 c3 c4 c5 c6 L.p who))
 have m1:=h.alloc (eO c0 c1 c2 c3 c4 c5 c6 L.p who)
 have v1 : ZV (w.alloc (eO c0 c1 c2 c3 c4 c5 c6 L.p who)) w.heap.size c0 c1 c2 c3 c4 c5 c6 L.p who:=ZV.new
 have o1 : Only (L.and b) w (w.alloc (eO c0 c1 c2 c3 c4 c5 c6 L.p who)):=(Only.refl _ _).alloc _
 have k0:=i1.cell0 rfl
 have k1:=i1.cell 1 rfl
 go_enter Tryz.func118,Tryz.ntmps118
 go_wp2_with (first
  | (go_at_call 122;refine (YU κ hκ _).mono ?_;rintro e w2 ⟨rfl,rfl⟩)
  | (go_at_call 66;refine (cy _).mono ?_;rintro e w3 ⟨rfl,b3⟩;have i3:=i1.grown b3;have m3:=m1.below b3;have v3:=v1.grown b3;obtain ⟨z0,z1,z2,z3,z4,z5,z6,z7,z8⟩:=id v3;have q0:=i3.cell0 rfl)
  | (go_at_call 166;refine (hc _ m3 i3).mono ?_;rintro e w4 ⟨rfl,m4,o4,EY,i4,s4⟩;have r0:=i4.cell0 rfl))
 go_ret
 exact ⟨rfl,m4,(o1.trans (Only.ZZ b3)).trans o4,EY,i4,s4⟩
theorem Qm {w : World} {L : Loc} {s : Mm} {b o : Nat} {T : TypeId} {cs : Array Value} {sn ch ws sa sb nx' O8 ch' ws' sa' sb' : Int} {s' : Mm} {κ : Nat} (h : Z9 w L s) (hi : At w b o T cs (Y7 5 κ sn ch ws sa sb)) (c0 c1 c2 c3 c4 c5 c6 who : Int) (hmay : may c0 c1 c2 c3 c4 c5 c6 = true) (hκ : κ < 4) (d : Bool) (hd : decide (7 <= nx') = d)
 (hc : ∀ w1 : World,Z9 w1 L s -> At w1 b o T cs (Y7 5 κ sn ch ws sa sb) -> Calls Tryz.prog 167 #[pP b o,eV c0 c1 c2 c3 c4 c5 c6 L.p who] w1 fun e w'=>e = .returned (.tuple #[]) /\ Z9 w' L s' /\ Only (L.and b) w1 w' /\ ∃ cs',At w' b o T cs' (Y7 nx' κ O8 ch' ws' sa' sb') /\ Same o 7 cs cs') :
 Calls Tryz.prog 118 #[pP b o,eV c0 c1 c2 c3 c4 c5 c6 L.p who] w fun e w'=>e = .returned (.bool d) /\ Z9 w' L s' /\ Only (L.and b) w w' /\ ∃ cs',At w' b o T cs' (Y7 nx' κ O8 ch' ws' sa' sb') /\ Same o 7 cs cs':=by
 have hq : ((room κ : Int) == 0) = false:=by have:=Zv κ;simp;omega
 have cy:=fun w=>XV c0 c1 c2 c3 c4 c5 c6 w
 rw [hmay] at cy
 have i1:=hi.grown (Z5 (Below.refl _ _) (eO c0 c1 c2 c3 c4 c5 c6 L.p who))
 have m1:=h.alloc (eO c0 c1 c2 c3 c4 c5 c6 L.p who)
 have v1 : ZV (w.alloc (eO c0 c1 c2 c3 c4 c5 c6 L.p who)) w.heap.size c0 c1 c2 c3 c4 c5 c6 L.p who:=ZV.new
 have o1 : Only (L.and b) w (w.alloc (eO c0 c1 c2 c3 c4 c5 c6 L.p who)):=(Only.refl _ _).alloc _
 have k0:=i1.cell0 rfl
 have k1:=i1.cell 1 rfl
 go_enter Tryz.func118,Tryz.ntmps118
 go_wp2_with (first
  | (go_at_call 122;refine (YU κ hκ _).mono ?_;rintro e w2 ⟨rfl,rfl⟩)
  | (go_at_call 66;refine (cy _).mono ?_;rintro e w3 ⟨rfl,b3⟩;have i3:=i1.grown b3;have m3:=m1.below b3;have v3:=v1.grown b3;obtain ⟨z0,z1,z2,z3,z4,z5,z6,z7,z8⟩:=id v3;have q0:=i3.cell0 rfl)
  | (go_at_call 167;refine (hc _ m3 i3).mono ?_;rintro e w4 ⟨rfl,m4,o4,EY,i4,s4⟩;have r0:=i4.cell0 rfl))
 go_ret
 exact ⟨rfl,m4,(o1.trans (Only.ZZ b3)).trans o4,EY,i4,s4⟩
theorem Ql {w : World} {L : Loc} {s : Mm} {b o : Nat} {T : TypeId} {cs : Array Value} {sn ch ws sa sb nx' O8 ch' ws' sa' sb' : Int} {s' : Mm} {κ : Nat} (h : Z9 w L s) (hi : At w b o T cs (Y7 6 κ sn ch ws sa sb)) (c0 c1 c2 c3 c4 c5 c6 who : Int) (hmay : may c0 c1 c2 c3 c4 c5 c6 = true) (hκ : κ < 4) (d : Bool) (hd : decide (7 <= nx') = d)
 (hc : ∀ w1 : World,Z9 w1 L s -> At w1 b o T cs (Y7 6 κ sn ch ws sa sb) -> Calls Tryz.prog 168 #[pP b o,eV c0 c1 c2 c3 c4 c5 c6 L.p who] w1 fun e w'=>e = .returned (.tuple #[]) /\ Z9 w' L s' /\ Only (L.and b) w1 w' /\ ∃ cs',At w' b o T cs' (Y7 nx' κ O8 ch' ws' sa' sb') /\ Same o 7 cs cs') :
 Calls Tryz.prog 118 #[pP b o,eV c0 c1 c2 c3 c4 c5 c6 L.p who] w fun e w'=>e = .returned (.bool d) /\ Z9 w' L s' /\ Only (L.and b) w w' /\ ∃ cs',At w' b o T cs' (Y7 nx' κ O8 ch' ws' sa' sb') /\ Same o 7 cs cs':=by
 have hq : ((room κ : Int) == 0) = false:=by have:=Zv κ;simp;omega
 have cy:=fun w=>XV c0 c1 c2 c3 c4 c5 c6 w
 rw [hmay] at cy
 have i1:=hi.grown (Z5 (Below.refl _ _) (eO c0 c1 c2 c3 c4 c5 c6 L.p who))
 have m1:=h.alloc (eO c0 c1 c2 c3 c4 c5 c6 L.p who)
 have v1 : ZV (w.alloc (eO c0 c1 c2 c3 c4 c5 c6 L.p who)) w.heap.size c0 c1 c2 c3 c4 c5 c6 L.p who:=ZV.new
 have o1 : Only (L.and b) w (w.alloc (eO c0 c1 c2 c3 c4 c5 c6 L.p who)):=(Only.refl _ _).alloc _
 have k0:=i1.cell0 rfl
 have k1:=i1.cell 1 rfl
 go_enter Tryz.func118,Tryz.ntmps118
 go_wp2_with (first
  | (go_at_call 122;refine (YU κ hκ _).mono ?_;rintro e w2 ⟨rfl,rfl⟩)
  | (go_at_call 66;refine (cy _).mono ?_;rintro e w3 ⟨rfl,b3⟩;have i3:=i1.grown b3;have m3:=m1.below b3;have v3:=v1.grown b3;obtain ⟨z0,z1,z2,z3,z4,z5,z6,z7,z8⟩:=id v3;have q0:=i3.cell0 rfl)
  | (go_at_call 168;refine (hc _ m3 i3).mono ?_;rintro e w4 ⟨rfl,m4,o4,EY,i4,s4⟩;have r0:=i4.cell0 rfl))
 go_ret
 exact ⟨rfl,m4,(o1.trans (Only.ZZ b3)).trans o4,EY,i4,s4⟩
end Go.Proofs.YtmnnhjhhhfabiaaGreat
