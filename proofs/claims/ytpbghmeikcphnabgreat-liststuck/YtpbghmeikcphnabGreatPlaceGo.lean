import Derived.Test.YtpbghmeikcphnabGreatPlaceLook
namespace Go.Proofs.YtpbghmeikcphnabGreat
open Go.RowKit
set_option maxRecDepth 20000
theorem Ph {w:World} {L:Loc} {s:Mm} {b o:Nat} {T:TypeId} {cs:Array Value} {sn ch ws sa sb nx' Qe ch' ws' sa' sb':Int} {s':Mm} {κ:Nat} (h:Z8 w L s) (hi:At w b o T cs (Y6 0 κ sn ch ws sa sb)) (c0 c1 c2 c3 c4 c5 c6 who:Int) (hmay:may c0 c1 c2 c3 c4 c5 c6=true) (hκ:κ<4) (d:Bool) (hd:decide (7<=nx')=d)
 (hc:∀ w1:World,Z8 w1 L s->At w1 b o T cs (Y6 0 κ sn ch ws sa sb)->Calls Tryz.prog 129 #[pP b o,eV c0 c1 c2 c3 c4 c5 c6 L.p who] w1 fun e w'=>e=.returned (.tuple #[])/\Z8 w' L s'/\Only (L.and b) w1 w'/\∃ cs',At w' b o T cs' (Y6 nx' κ Qe ch' ws' sa' sb')/\Same o 7 cs cs') :
 Calls Tryz.prog 116 #[pP b o,eV c0 c1 c2 c3 c4 c5 c6 L.p who] w fun e w'=>e=.returned (.bool d)/\Z8 w' L s'/\Only (L.and b) w w'/\∃ cs',At w' b o T cs' (Y6 nx' κ Qe ch' ws' sa' sb')/\Same o 7 cs cs':=by
 have hq:((room κ:Int) == 0)=false:=by have:=YU κ;simp;omega
 have cy:=fun w=>Yg c0 c1 c2 c3 c4 c5 c6 w
 rw[hmay] at cy
 have i1:=hi.grown (Z4 (Below.refl _ _) (.cells #[iV c0,iV c1,iV c2,iV c3,iV c4,iV c5,iV c6,pP L.p 0,iV who] 26))
 have m1:=h.alloc (.cells #[iV c0,iV c1,iV c2,iV c3,iV c4,iV c5,iV c6,pP L.p 0,iV who] 26)
 have v1:ZR (w.alloc (.cells #[iV c0,iV c1,iV c2,iV c3,iV c4,iV c5,iV c6,pP L.p 0,iV who] 26)) w.heap.size c0 c1 c2 c3 c4 c5 c6 L.p who:=ZR.new
 have o1:Only (L.and b) w (w.alloc (.cells #[iV c0,iV c1,iV c2,iV c3,iV c4,iV c5,iV c6,pP L.p 0,iV who] 26)):=(Only.refl _ _).alloc _
 have k0:=i1.cell0 rfl
 have k1:=i1.cell 1 rfl
 go_enter Tryz.func116,Tryz.ntmps116
 go_wp2_with (first
  | (go_at_call 120;refine(YB κ hκ _).mono ?_;rintro e w2 ⟨rfl,rfl⟩)
  | (go_at_call 41;refine(cy _).mono ?_;rintro e w3 ⟨rfl,b3⟩;have i3:=i1.grown b3;have m3:=m1.below b3;have v3:=v1.grown b3;obtain⟨z0,z1,z2,z3,z4,z5,z6,z7,z8⟩:=id v3;have q0:=i3.cell0 rfl)
  | (go_at_call 129;refine(hc _ m3 i3).mono ?_;rintro e w4 ⟨rfl,m4,o4,Fz,i4,s4⟩;have r0:=i4.cell0 rfl))
 go_ret
 exact⟨rfl,m4,(o1.trans (Only.ZZ b3)).trans o4,Fz,i4,s4⟩
theorem Ur {w:World} {L:Loc} {s:Mm} {b o:Nat} {T:TypeId} {cs:Array Value} {sn ch ws sa sb nx' Qe ch' ws' sa' sb':Int} {s':Mm} {κ:Nat} (h:Z8 w L s) (hi:At w b o T cs (Y6 1 κ sn ch ws sa sb)) (c0 c1 c2 c3 c4 c5 c6 who:Int) (hmay:may c0 c1 c2 c3 c4 c5 c6=true) (hκ:κ<4) (d:Bool) (hd:decide (7<=nx')=d)
 (hc:∀ w1:World,Z8 w1 L s->At w1 b o T cs (Y6 1 κ sn ch ws sa sb)->Calls Tryz.prog 130 #[pP b o,eV c0 c1 c2 c3 c4 c5 c6 L.p who] w1 fun e w'=>e=.returned (.tuple #[])/\Z8 w' L s'/\Only (L.and b) w1 w'/\∃ cs',At w' b o T cs' (Y6 nx' κ Qe ch' ws' sa' sb')/\Same o 7 cs cs') :
 Calls Tryz.prog 116 #[pP b o,eV c0 c1 c2 c3 c4 c5 c6 L.p who] w fun e w'=>e=.returned (.bool d)/\Z8 w' L s'/\Only (L.and b) w w'/\∃ cs',At w' b o T cs' (Y6 nx' κ Qe ch' ws' sa' sb')/\Same o 7 cs cs':=by
 have hq:((room κ:Int) == 0)=false:=by have:=YU κ;simp;omega
 have cy:=fun w=>Yg c0 c1 c2 c3 c4 c5 c6 w
 rw[hmay] at cy
 have i1:=hi.grown (Z4 (Below.refl _ _) (.cells #[iV c0,iV c1,iV c2,iV c3,iV c4,iV c5,iV c6,pP L.p 0,iV who] 26))
 have m1:=h.alloc (.cells #[iV c0,iV c1,iV c2,iV c3,iV c4,iV c5,iV c6,pP L.p 0,iV who] 26)
 have v1:ZR (w.alloc (.cells #[iV c0,iV c1,iV c2,iV c3,iV c4,iV c5,iV c6,pP L.p 0,iV who] 26)) w.heap.size c0 c1 c2 c3 c4 c5 c6 L.p who:=ZR.new
 have o1:Only (L.and b) w (w.alloc (.cells #[iV c0,iV c1,iV c2,iV c3,iV c4,iV c5,iV c6,pP L.p 0,iV who] 26)):=(Only.refl _ _).alloc _
 have k0:=i1.cell0 rfl
 have k1:=i1.cell 1 rfl
 go_enter Tryz.func116,Tryz.ntmps116
 go_wp2_with (first
  | (go_at_call 120;refine(YB κ hκ _).mono ?_;rintro e w2 ⟨rfl,rfl⟩)
  | (go_at_call 41;refine(cy _).mono ?_;rintro e w3 ⟨rfl,b3⟩;have i3:=i1.grown b3;have m3:=m1.below b3;have v3:=v1.grown b3;obtain⟨z0,z1,z2,z3,z4,z5,z6,z7,z8⟩:=id v3;have q0:=i3.cell0 rfl)
  | (go_at_call 130;refine(hc _ m3 i3).mono ?_;rintro e w4 ⟨rfl,m4,o4,Fz,i4,s4⟩;have r0:=i4.cell0 rfl))
 go_ret
 exact⟨rfl,m4,(o1.trans (Only.ZZ b3)).trans o4,Fz,i4,s4⟩
theorem Qm {w:World} {L:Loc} {s:Mm} {b o:Nat} {T:TypeId} {cs:Array Value} {sn ch ws sa sb nx' Qe ch' ws' sa' sb':Int} {s':Mm} {κ:Nat} (h:Z8 w L s) (hi:At w b o T cs (Y6 2 κ sn ch ws sa sb)) (c0 c1 c2 c3 c4 c5 c6 who:Int) (hmay:may c0 c1 c2 c3 c4 c5 c6=true) (hκ:κ<4) (d:Bool) (hd:decide (7<=nx')=d)
 (hc:∀ w1:World,Z8 w1 L s->At w1 b o T cs (Y6 2 κ sn ch ws sa sb)->Calls Tryz.prog 131 #[pP b o,eV c0 c1 c2 c3 c4 c5 c6 L.p who] w1 fun e w'=>e=.returned (.tuple #[])/\Z8 w' L s'/\Only (L.and b) w1 w'/\∃ cs',At w' b o T cs' (Y6 nx' κ Qe ch' ws' sa' sb')/\Same o 7 cs cs') :
 Calls Tryz.prog 116 #[pP b o,eV c0 c1 c2 c3 c4 c5 c6 L.p who] w fun e w'=>e=.returned (.bool d)/\Z8 w' L s'/\Only (L.and b) w w'/\∃ cs',At w' b o T cs' (Y6 nx' κ Qe ch' ws' sa' sb')/\Same o 7 cs cs':=by
 have hq:((room κ:Int) == 0)=false:=by have:=YU κ;simp;omega
 have cy:=fun w=>Yg c0 c1 c2 c3 c4 c5 c6 w
 rw[hmay] at cy
 have i1:=hi.grown (Z4 (Below.refl _ _) (.cells #[iV c0,iV c1,iV c2,iV c3,iV c4,iV c5,iV c6,pP L.p 0,iV who] 26))
 have m1:=h.alloc (.cells #[iV c0,iV c1,iV c2,iV c3,iV c4,iV c5,iV c6,pP L.p 0,iV who] 26)
 have v1:ZR (w.alloc (.cells #[iV c0,iV c1,iV c2,iV c3,iV c4,iV c5,iV c6,pP L.p 0,iV who] 26)) w.heap.size c0 c1 c2 c3 c4 c5 c6 L.p who:=ZR.new
 have o1:Only (L.and b) w (w.alloc (.cells #[iV c0,iV c1,iV c2,iV c3,iV c4,iV c5,iV c6,pP L.p 0,iV who] 26)):=(Only.refl _ _).alloc _
 have k0:=i1.cell0 rfl
 have k1:=i1.cell 1 rfl
 go_enter Tryz.func116,Tryz.ntmps116
 go_wp2_with (first
  | (go_at_call 120;refine(YB κ hκ _).mono ?_;rintro e w2 ⟨rfl,rfl⟩)
  | (go_at_call 41;refine(cy _).mono ?_;rintro e w3 ⟨rfl,b3⟩;have i3:=i1.grown b3;have m3:=m1.below b3;have v3:=v1.grown b3;obtain⟨z0,z1,z2,z3,z4,z5,z6,z7,z8⟩:=id v3;have q0:=i3.cell0 rfl)
  | (go_at_call 131;refine(hc _ m3 i3).mono ?_;rintro e w4 ⟨rfl,m4,o4,Fz,i4,s4⟩;have r0:=i4.cell0 rfl))
 go_ret
 exact⟨rfl,m4,(o1.trans (Only.ZZ b3)).trans o4,Fz,i4,s4⟩
theorem Ql {w:World} {L:Loc} {s:Mm} {b o:Nat} {T:TypeId} {cs:Array Value} {sn ch ws sa sb nx' Qe ch' ws' sa' sb':Int} {s':Mm} {κ:Nat} (h:Z8 w L s) (hi:At w b o T cs (Y6 3 κ sn ch ws sa sb)) (c0 c1 c2 c3 c4 c5 c6 who:Int) (hmay:may c0 c1 c2 c3 c4 c5 c6=true) (hκ:κ<4) (d:Bool) (hd:decide (7<=nx')=d)
 (hc:∀ w1:World,Z8 w1 L s->At w1 b o T cs (Y6 3 κ sn ch ws sa sb)->Calls Tryz.prog 132 #[pP b o,eV c0 c1 c2 c3 c4 c5 c6 L.p who] w1 fun e w'=>e=.returned (.tuple #[])/\Z8 w' L s'/\Only (L.and b) w1 w'/\∃ cs',At w' b o T cs' (Y6 nx' κ Qe ch' ws' sa' sb')/\Same o 7 cs cs') :
 Calls Tryz.prog 116 #[pP b o,eV c0 c1 c2 c3 c4 c5 c6 L.p who] w fun e w'=>e=.returned (.bool d)/\Z8 w' L s'/\Only (L.and b) w w'/\∃ cs',At w' b o T cs' (Y6 nx' κ Qe ch' ws' sa' sb')/\Same o 7 cs cs':=by
 have hq:((room κ:Int) == 0)=false:=by have:=YU κ;simp;omega
 have cy:=fun w=>Yg c0 c1 c2 c3 c4 c5 c6 w
 rw[hmay] at cy
 have i1:=hi.grown (Z4 (Below.refl _ _) (.cells #[iV c0,iV c1,iV c2,iV c3,iV c4,iV c5,iV c6,pP L.p 0,iV who] 26))
 have m1:=h.alloc (.cells #[iV c0,iV c1,iV c2,iV c3,iV c4,iV c5,iV c6,pP L.p 0,iV who] 26)
 have v1:ZR (w.alloc (.cells #[iV c0,iV c1,iV c2,iV c3,iV c4,iV c5,iV c6,pP L.p 0,iV who] 26)) w.heap.size c0 c1 c2 c3 c4 c5 c6 L.p who:=ZR.new
 have o1:Only (L.and b) w (w.alloc (.cells #[iV c0,iV c1,iV c2,iV c3,iV c4,iV c5,iV c6,pP L.p 0,iV who] 26)):=(Only.refl _ _).alloc _
 have k0:=i1.cell0 rfl
 have k1:=i1.cell 1 rfl
 go_enter Tryz.func116,Tryz.ntmps116
 go_wp2_with (first
  | (go_at_call 120;refine(YB κ hκ _).mono ?_;rintro e w2 ⟨rfl,rfl⟩)
  | (go_at_call 41;refine(cy _).mono ?_;rintro e w3 ⟨rfl,b3⟩;have i3:=i1.grown b3;have m3:=m1.below b3;have v3:=v1.grown b3;obtain⟨z0,z1,z2,z3,z4,z5,z6,z7,z8⟩:=id v3;have q0:=i3.cell0 rfl)
  | (go_at_call 132;refine(hc _ m3 i3).mono ?_;rintro e w4 ⟨rfl,m4,o4,Fz,i4,s4⟩;have r0:=i4.cell0 rfl))
 go_ret
 exact⟨rfl,m4,(o1.trans (Only.ZZ b3)).trans o4,Fz,i4,s4⟩
theorem Qk {w:World} {L:Loc} {s:Mm} {b o:Nat} {T:TypeId} {cs:Array Value} {sn ch ws sa sb nx' Qe ch' ws' sa' sb':Int} {s':Mm} {κ:Nat} (h:Z8 w L s) (hi:At w b o T cs (Y6 4 κ sn ch ws sa sb)) (c0 c1 c2 c3 c4 c5 c6 who:Int) (hmay:may c0 c1 c2 c3 c4 c5 c6=true) (hκ:κ<4) (d:Bool) (hd:decide (7<=nx')=d)
 (hc:∀ w1:World,Z8 w1 L s->At w1 b o T cs (Y6 4 κ sn ch ws sa sb)->Calls Tryz.prog 133 #[pP b o,eV c0 c1 c2 c3 c4 c5 c6 L.p who] w1 fun e w'=>e=.returned (.tuple #[])/\Z8 w' L s'/\Only (L.and b) w1 w'/\∃ cs',At w' b o T cs' (Y6 nx' κ Qe ch' ws' sa' sb')/\Same o 7 cs cs') :
 Calls Tryz.prog 116 #[pP b o,eV c0 c1 c2 c3 c4 c5 c6 L.p who] w fun e w'=>e=.returned (.bool d)/\Z8 w' L s'/\Only (L.and b) w w'/\∃ cs',At w' b o T cs' (Y6 nx' κ Qe ch' ws' sa' sb')/\Same o 7 cs cs':=by
 have hq:((room κ:Int) == 0)=false:=by have:=YU κ;simp;omega
 have cy:=fun w=>Yg c0 c1 c2 c3 c4 c5 c6 w
 rw[hmay] at cy
 have i1:=hi.grown (Z4 (Below.refl _ _) (.cells #[iV c0,iV c1,iV c2,iV c3,iV c4,iV c5,iV c6,pP L.p 0,iV who] 26))
 have m1:=h.alloc (.cells #[iV c0,iV c1,iV c2,iV c3,iV c4,iV c5,iV c6,pP L.p 0,iV who] 26)
 have v1:ZR (w.alloc (.cells #[iV c0,iV c1,iV c2,iV c3,iV c4,iV c5,iV c6,pP L.p 0,iV who] 26)) w.heap.size c0 c1 c2 c3 c4 c5 c6 L.p who:=ZR.new
 have o1:Only (L.and b) w (w.alloc (.cells #[iV c0,iV c1,iV c2,iV c3,iV c4,iV c5,iV c6,pP L.p 0,iV who] 26)):=(Only.refl _ _).alloc _
 have k0:=i1.cell0 rfl
 have k1:=i1.cell 1 rfl
 go_enter Tryz.func116,Tryz.ntmps116
 go_wp2_with (first
  | (go_at_call 120;refine(YB κ hκ _).mono ?_;rintro e w2 ⟨rfl,rfl⟩)
  | (go_at_call 41;refine(cy _).mono ?_;rintro e w3 ⟨rfl,b3⟩;have i3:=i1.grown b3;have m3:=m1.below b3;have v3:=v1.grown b3;obtain⟨z0,z1,z2,z3,z4,z5,z6,z7,z8⟩:=id v3;have q0:=i3.cell0 rfl)
  | (go_at_call 133;refine(hc _ m3 i3).mono ?_;rintro e w4 ⟨rfl,m4,o4,Fz,i4,s4⟩;have r0:=i4.cell0 rfl))
 go_ret
 exact⟨rfl,m4,(o1.trans (Only.ZZ b3)).trans o4,Fz,i4,s4⟩
theorem Qj {w:World} {L:Loc} {s:Mm} {b o:Nat} {T:TypeId} {cs:Array Value} {sn ch ws sa sb nx' Qe ch' ws' sa' sb':Int} {s':Mm} {κ:Nat} (h:Z8 w L s) (hi:At w b o T cs (Y6 5 κ sn ch ws sa sb)) (c0 c1 c2 c3 c4 c5 c6 who:Int) (hmay:may c0 c1 c2 c3 c4 c5 c6=true) (hκ:κ<4) (d:Bool) (hd:decide (7<=nx')=d)
 (hc:∀ w1:World,Z8 w1 L s->At w1 b o T cs (Y6 5 κ sn ch ws sa sb)->Calls Tryz.prog 134 #[pP b o,eV c0 c1 c2 c3 c4 c5 c6 L.p who] w1 fun e w'=>e=.returned (.tuple #[])/\Z8 w' L s'/\Only (L.and b) w1 w'/\∃ cs',At w' b o T cs' (Y6 nx' κ Qe ch' ws' sa' sb')/\Same o 7 cs cs') :
 Calls Tryz.prog 116 #[pP b o,eV c0 c1 c2 c3 c4 c5 c6 L.p who] w fun e w'=>e=.returned (.bool d)/\Z8 w' L s'/\Only (L.and b) w w'/\∃ cs',At w' b o T cs' (Y6 nx' κ Qe ch' ws' sa' sb')/\Same o 7 cs cs':=by
 have hq:((room κ:Int) == 0)=false:=by have:=YU κ;simp;omega
 have cy:=fun w=>Yg c0 c1 c2 c3 c4 c5 c6 w
 rw[hmay] at cy
 have i1:=hi.grown (Z4 (Below.refl _ _) (.cells #[iV c0,iV c1,iV c2,iV c3,iV c4,iV c5,iV c6,pP L.p 0,iV who] 26))
 have m1:=h.alloc (.cells #[iV c0,iV c1,iV c2,iV c3,iV c4,iV c5,iV c6,pP L.p 0,iV who] 26)
 have v1:ZR (w.alloc (.cells #[iV c0,iV c1,iV c2,iV c3,iV c4,iV c5,iV c6,pP L.p 0,iV who] 26)) w.heap.size c0 c1 c2 c3 c4 c5 c6 L.p who:=ZR.new
 have o1:Only (L.and b) w (w.alloc (.cells #[iV c0,iV c1,iV c2,iV c3,iV c4,iV c5,iV c6,pP L.p 0,iV who] 26)):=(Only.refl _ _).alloc _
 have k0:=i1.cell0 rfl
 have k1:=i1.cell 1 rfl
 go_enter Tryz.func116,Tryz.ntmps116
 go_wp2_with (first
  | (go_at_call 120;refine(YB κ hκ _).mono ?_;rintro e w2 ⟨rfl,rfl⟩)
  | (go_at_call 41;refine(cy _).mono ?_;rintro e w3 ⟨rfl,b3⟩;have i3:=i1.grown b3;have m3:=m1.below b3;have v3:=v1.grown b3;obtain⟨z0,z1,z2,z3,z4,z5,z6,z7,z8⟩:=id v3;have q0:=i3.cell0 rfl)
  | (go_at_call 134;refine(hc _ m3 i3).mono ?_;rintro e w4 ⟨rfl,m4,o4,Fz,i4,s4⟩;have r0:=i4.cell0 rfl))
 go_ret
 exact⟨rfl,m4,(o1.trans (Only.ZZ b3)).trans o4,Fz,i4,s4⟩
theorem Qi {w:World} {L:Loc} {s:Mm} {b o:Nat} {T:TypeId} {cs:Array Value} {sn ch ws sa sb nx' Qe ch' ws' sa' sb':Int} {s':Mm} {κ:Nat} (h:Z8 w L s) (hi:At w b o T cs (Y6 6 κ sn ch ws sa sb)) (c0 c1 c2 c3 c4 c5 c6 who:Int) (hmay:may c0 c1 c2 c3 c4 c5 c6=true) (hκ:κ<4) (d:Bool) (hd:decide (7<=nx')=d)
 (hc:∀ w1:World,Z8 w1 L s->At w1 b o T cs (Y6 6 κ sn ch ws sa sb)->Calls Tryz.prog 135 #[pP b o,eV c0 c1 c2 c3 c4 c5 c6 L.p who] w1 fun e w'=>e=.returned (.tuple #[])/\Z8 w' L s'/\Only (L.and b) w1 w'/\∃ cs',At w' b o T cs' (Y6 nx' κ Qe ch' ws' sa' sb')/\Same o 7 cs cs') :
 Calls Tryz.prog 116 #[pP b o,eV c0 c1 c2 c3 c4 c5 c6 L.p who] w fun e w'=>e=.returned (.bool d)/\Z8 w' L s'/\Only (L.and b) w w'/\∃ cs',At w' b o T cs' (Y6 nx' κ Qe ch' ws' sa' sb')/\Same o 7 cs cs':=by
 have hq:((room κ:Int) == 0)=false:=by have:=YU κ;simp;omega
 have cy:=fun w=>Yg c0 c1 c2 c3 c4 c5 c6 w
 rw[hmay] at cy
 have i1:=hi.grown (Z4 (Below.refl _ _) (.cells #[iV c0,iV c1,iV c2,iV c3,iV c4,iV c5,iV c6,pP L.p 0,iV who] 26))
 have m1:=h.alloc (.cells #[iV c0,iV c1,iV c2,iV c3,iV c4,iV c5,iV c6,pP L.p 0,iV who] 26)
 have v1:ZR (w.alloc (.cells #[iV c0,iV c1,iV c2,iV c3,iV c4,iV c5,iV c6,pP L.p 0,iV who] 26)) w.heap.size c0 c1 c2 c3 c4 c5 c6 L.p who:=ZR.new
 have o1:Only (L.and b) w (w.alloc (.cells #[iV c0,iV c1,iV c2,iV c3,iV c4,iV c5,iV c6,pP L.p 0,iV who] 26)):=(Only.refl _ _).alloc _
 have k0:=i1.cell0 rfl
 have k1:=i1.cell 1 rfl
 go_enter Tryz.func116,Tryz.ntmps116
 go_wp2_with (first
  | (go_at_call 120;refine(YB κ hκ _).mono ?_;rintro e w2 ⟨rfl,rfl⟩)
  | (go_at_call 41;refine(cy _).mono ?_;rintro e w3 ⟨rfl,b3⟩;have i3:=i1.grown b3;have m3:=m1.below b3;have v3:=v1.grown b3;obtain⟨z0,z1,z2,z3,z4,z5,z6,z7,z8⟩:=id v3;have q0:=i3.cell0 rfl)
  | (go_at_call 135;refine(hc _ m3 i3).mono ?_;rintro e w4 ⟨rfl,m4,o4,Fz,i4,s4⟩;have r0:=i4.cell0 rfl))
 go_ret
 exact⟨rfl,m4,(o1.trans (Only.ZZ b3)).trans o4,Fz,i4,s4⟩
end Go.Proofs.YtpbghmeikcphnabGreat
