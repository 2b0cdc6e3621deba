import Derived.Test.YtgehjolndmgffaaGreatLay
import Derived.Test.YtgehjolndmgffaaGreatMem
namespace Go.Proofs.YtgehjolndmgffaaGreat
open Go.RowKit
def Mm.by(s:Mm) (who:Int):Mm:={ s with who:=who }
theorem Zj {w:World} {L:Loc} {s:Mm} (h:Z8 w L s) (c0 c1 c2 c3 c4 c5 c6 who:Int) (a:Nat) (ha:a<s.n) :
 Calls Tryz.prog 126 #[eV c0 c1 c2 c3 c4 c5 c6 L.p who,iV a] w fun e w'=>e=.returned (.int .u64 (s.wd a))/\Z8 w' L ((s.by who).step a (s.wd a))/\Only L.has w w':=by
 go_enter Tryz.func126,Tryz.ntmps126
 go_wp2_with (first
  | (go_at_call 90;refine(Pv (h.alloc _) _).mono ?_;rintro e w1 ⟨rfl,m1,o1,z1⟩;have k7:=o1.keep (b:=w.heap.size) (o:=7) (v:=(pP L.p 0)) (fun hh=>by have:=h.lt _ hh;omega) (by simp))
  | (go_at_call 129;refine(Cc m1 a ha).mono ?_;rintro e w2 ⟨rfl,m2,o2,z2⟩))
 go_ret
 exact⟨rfl,m2,((Only.refl _ _).alloc _).trans (o1.trans o2)⟩
theorem WY {w:World} {L:Loc} {s:Mm} (h:Z8 w L s) (c0 c1 c2 c3 c4 c5 c6 who:Int) (a:Nat) (ha:a<s.n) (v:Int) :
 Calls Tryz.prog 128 #[eV c0 c1 c2 c3 c4 c5 c6 L.p who,iV a,.int .u64 v] w fun e w'=>e=.returned (.tuple #[])/\Z8 w' L ((s.by who).step a v)/\Only L.has w w':=by
 go_enter Tryz.func128,Tryz.ntmps128
 go_wp2_with (first
  | (go_at_call 90;refine(Pv (h.alloc _) _).mono ?_;rintro e w1 ⟨rfl,m1,o1,z1⟩;have k7:=o1.keep (b:=w.heap.size) (o:=7) (v:=(pP L.p 0)) (fun hh=>by have:=h.lt _ hh;omega) (by simp))
  | (go_at_call 48;refine(UI m1 a ha _).mono ?_;rintro e w2 ⟨rfl,m2,o2,z2⟩))
 go_end0
 exact⟨rfl,m2,((Only.refl _ _).alloc _).trans (o1.trans o2)⟩
theorem Yj {w:World} {L:Loc} {s:Mm} (h:Z8 w L s) (c0 c1 c2 c3 c4 c5 c6 who:Int) (a:Nat) (ha:a<s.n) (old v:Int) :
 Calls Tryz.prog 170 #[eV c0 c1 c2 c3 c4 c5 c6 L.p who,iV a,.int .u64 old,.int .u64 v] w fun e w'=>e=.returned (.bool (decide (s.wd a=old)))/\Z8 w' L ((s.by who).Wq a old v)/\Only L.has w w':=by
 go_enter Tryz.func170,Tryz.ntmps170
 go_wp2_with (first
  | (go_at_call 90;refine(Pv (h.alloc _) _).mono ?_;rintro e w1 ⟨rfl,m1,o1,z1⟩;have k7:=o1.keep (b:=w.heap.size) (o:=7) (v:=(pP L.p 0)) (fun hh=>by have:=h.lt _ hh;omega) (by simp))
  | (go_at_call 177;refine(zu m1 a ha _ _).mono ?_;rintro e w2 ⟨rfl,m2,o2,z2⟩))
 go_ret
 exact⟨rfl,m2,((Only.refl _ _).alloc _).trans (o1.trans o2)⟩
def Xv (d:Int):Int:=d % 18446744073709551616
theorem JV {w:World} {L:Loc} {s:Mm} (h:Z8 w L s) (c0 c1 c2 c3 c4 c5 c6 who:Int) (a:Nat) (ha:a<s.n) (d:Int) :
 Calls Tryz.prog 150 #[eV c0 c1 c2 c3 c4 c5 c6 L.p who,iV a,iV d] w fun e w'=>e=.returned (.tuple #[])/\Z8 w' L ((s.by who).step a (sum64 (s.wd a) (Xv d)))/\Only L.has w w':=by
 go_enter Tryz.func150,Tryz.ntmps150
 go_wp2_with (first
  | (go_at_call 90;refine(Pv (h.alloc _) _).mono ?_;rintro e w1 ⟨rfl,m1,o1,z1⟩;have k7:=o1.keep (b:=w.heap.size) (o:=7) (v:=(pP L.p 0)) (fun hh=>by have:=h.lt _ hh;omega) (by simp))
  | (go_at_call 167;refine(zt m1 a ha _).mono ?_;rintro e w2 ⟨rfl,m2,o2,z2⟩))
 go_end0
 exact⟨rfl,m2,((Only.refl _ _).alloc _).trans (o1.trans o2)⟩
theorem FU {w:World} {L:Loc} {s:Mm} (h:Z8 w L s) (c0 c1 c2 c3 c4 c5 c6 who:Int) :
 Calls Tryz.prog 11 #[eV c0 c1 c2 c3 c4 c5 c6 L.p who] w fun e w'=>e=.returned (iV s.steps)/\Below w.heap.size w w':=by
 go_enter Tryz.func11,Tryz.ntmps11
 go_wp2_with (go_at_call 27;refine(Ir (h.alloc _)).mono ?_;rintro e w1 ⟨rfl,rfl⟩)
 go_ret
 exact⟨rfl,Z7 (Below.refl _ _) _⟩
end Go.Proofs.YtgehjolndmgffaaGreat
