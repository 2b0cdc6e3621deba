import Derived.Test.YtgehjolndmgffaaGreatPlaceAsk
namespace Go.Proofs.YtgehjolndmgffaaGreat
open Go.RowKit
set_option maxRecDepth 20000
theorem Zh {w:World} {L:Loc} {s:Mm} {b o:Nat} {T:TypeId} {cs:Array Value} {z sn ch ws sa sb nx' qO ch' ws' sa' sb':Int} {s':Mm} {κ:Nat} (h:Z8 w L s) (hi:At w b o T cs (Yw z κ sn ch ws sa sb)) (c0 c1 c2 c3 c4 c5 c6 who:Int) (hmay:may c0 c1 c2 c3 c4 c5 c6=true) (hκ:κ<4) {f:Nat} (hf:(z=0/\f=160)\/(z=1/\f=161)\/(z=2/\f=162)\/(z=3/\f=163)\/(z=4/\f=164)\/(z=5/\f=165)\/(z=6/\f=166)) (d:Bool) (hd:decide (7<=nx')=d)
 (hc:∀ w1:World,Z8 w1 L s->At w1 b o T cs (Yw z κ sn ch ws sa sb)->Calls Tryz.prog f #[pP b o,eV c0 c1 c2 c3 c4 c5 c6 L.p who] w1 fun e w'=>e=.returned (.tuple #[])/\Z8 w' L s'/\Only (L.and b) w1 w'/\∃ cs',At w' b o T cs' (Yw nx' κ qO ch' ws' sa' sb')/\Same o 7 cs cs') :
 Calls Tryz.prog 147 #[pP b o,eV c0 c1 c2 c3 c4 c5 c6 L.p who] w fun e w'=>e=.returned (.bool d)/\Z8 w' L s'/\Only (L.and b) w w'/\∃ cs',At w' b o T cs' (Yw nx' κ qO ch' ws' sa' sb')/\Same o 7 cs cs':=by
 have hq:((room κ:Int) == 0)=false:=by have:=Yg κ;simp;omega
 have cy:=fun w=>Rq c0 c1 c2 c3 c4 c5 c6 w
 rw[hmay] at cy
 have i1:=hi.grown (Z7 (Below.refl _ _) (.cells #[iV c0,iV c1,iV c2,iV c3,iV c4,iV c5,iV c6,pP L.p 0,iV who] 27))
 have m1:=h.alloc (.cells #[iV c0,iV c1,iV c2,iV c3,iV c4,iV c5,iV c6,pP L.p 0,iV who] 27)
 have v1:ZP (w.alloc (.cells #[iV c0,iV c1,iV c2,iV c3,iV c4,iV c5,iV c6,pP L.p 0,iV who] 27)) w.heap.size c0 c1 c2 c3 c4 c5 c6 L.p who:=ZP.new
 have o1:Only (L.and b) w (w.alloc (.cells #[iV c0,iV c1,iV c2,iV c3,iV c4,iV c5,iV c6,pP L.p 0,iV who] 27)):=(Only.refl _ _).alloc _
 have k0:=i1.cell0 rfl
 have k1:=i1.cell 1 rfl
 rcases hf with⟨rfl,rfl⟩ | ⟨rfl,rfl⟩ | ⟨rfl,rfl⟩ | ⟨rfl,rfl⟩ | ⟨rfl,rfl⟩ | ⟨rfl,rfl⟩ | ⟨rfl,rfl⟩
 all_goals
  go_enter Tryz.func147,Tryz.ntmps147
  go_wp2_with (first
   | (go_at_call 151;refine(VJ κ hκ _).mono ?_;rintro e w2 ⟨rfl,rfl⟩)
   | (go_at_call 45;refine(cy _).mono ?_;rintro e w3 ⟨rfl,b3⟩;have i3:=i1.grown b3;have m3:=m1.below b3;have v3:=v1.grown b3;obtain⟨z0,z1,z2,z3,z4,z5,z6,z7,z8⟩:=id v3;have q0:=i3.cell0 rfl)
   | (go_at_call 160;refine(hc _ m3 i3).mono ?_;rintro e w4 ⟨rfl,m4,o4,yU,i4,s4⟩;have r0:=i4.cell0 rfl) | (go_at_call 161;refine(hc _ m3 i3).mono ?_;rintro e w4 ⟨rfl,m4,o4,yU,i4,s4⟩;have r0:=i4.cell0 rfl) | (go_at_call 162;refine(hc _ m3 i3).mono ?_;rintro e w4 ⟨rfl,m4,o4,yU,i4,s4⟩;have r0:=i4.cell0 rfl) | (go_at_call 163;refine(hc _ m3 i3).mono ?_;rintro e w4 ⟨rfl,m4,o4,yU,i4,s4⟩;have r0:=i4.cell0 rfl) | (go_at_call 164;refine(hc _ m3 i3).mono ?_;rintro e w4 ⟨rfl,m4,o4,yU,i4,s4⟩;have r0:=i4.cell0 rfl) | (go_at_call 165;refine(hc _ m3 i3).mono ?_;rintro e w4 ⟨rfl,m4,o4,yU,i4,s4⟩;have r0:=i4.cell0 rfl) | (go_at_call 166;refine(hc _ m3 i3).mono ?_;rintro e w4 ⟨rfl,m4,o4,yU,i4,s4⟩;have r0:=i4.cell0 rfl))
  go_ret
  exact⟨rfl,m4,(o1.trans (Only.Z5 b3)).trans o4,yU,i4,s4⟩
end Go.Proofs.YtgehjolndmgffaaGreat
