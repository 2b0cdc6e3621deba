import Derived.Test.YtibmjlefcaonnaaGreatLay
import Derived.Test.YtibmjlefcaonnaaGreatMem
namespace Go.Proofs.YtibmjlefcaonnaaGreat
open Go.RowKit
def Mm.by(s:Mm) (who:Int):Mm:={ s with who:=who }
theorem Zh {w:World} {L:Loc} {s:Mm} (h:Z7 w L s) (c0 c1 c2 c3 c4 c5 c6 who:Int) (a:Nat) (ha:a<s.n) :
 Calls Tryz.prog 101 #[eV c0 c1 c2 c3 c4 c5 c6 L.p who,iV a] w fun e w'=>e=.returned (.int .u64 (s.wd a))/\Z7 w' L ((s.by who).step a (s.wd a))/\Only L.has w w':=by
 go_enter Tryz.func101,Tryz.ntmps101
 go_wp2_with (first
  | (go_at_call 96;refine(PO (h.alloc _) _).mono ?_;rintro e w1 ⟨rfl,m1,o1,z1⟩;have k7:=o1.keep (b:=w.heap.size) (o:=7) (v:=(pP L.p 0)) (fun hh=>by have:=h.lt _ hh;omega) (by simp))
  | (go_at_call 104;refine(DD m1 a ha).mono ?_;rintro e w2 ⟨rfl,m2,o2,z2⟩))
 go_ret
 exact⟨rfl,m2,((Only.refl _ _).alloc _).trans (o1.trans o2)⟩
theorem WW {w:World} {L:Loc} {s:Mm} (h:Z7 w L s) (c0 c1 c2 c3 c4 c5 c6 who:Int) (a:Nat) (ha:a<s.n) (v:Int) :
 Calls Tryz.prog 103 #[eV c0 c1 c2 c3 c4 c5 c6 L.p who,iV a,.int .u64 v] w fun e w'=>e=.returned (.tuple #[])/\Z7 w' L ((s.by who).step a v)/\Only L.has w w':=by
 go_enter Tryz.func103,Tryz.ntmps103
 go_wp2_with (first
  | (go_at_call 96;refine(PO (h.alloc _) _).mono ?_;rintro e w1 ⟨rfl,m1,o1,z1⟩;have k7:=o1.keep (b:=w.heap.size) (o:=7) (v:=(pP L.p 0)) (fun hh=>by have:=h.lt _ hh;omega) (by simp))
  | (go_at_call 32;refine(UA m1 a ha _).mono ?_;rintro e w2 ⟨rfl,m2,o2,z2⟩))
 go_end0
 exact⟨rfl,m2,((Only.refl _ _).alloc _).trans (o1.trans o2)⟩
theorem Ye {w:World} {L:Loc} {s:Mm} (h:Z7 w L s) (c0 c1 c2 c3 c4 c5 c6 who:Int) (a:Nat) (ha:a<s.n) (old v:Int) :
 Calls Tryz.prog 146 #[eV c0 c1 c2 c3 c4 c5 c6 L.p who,iV a,.int .u64 old,.int .u64 v] w fun e w'=>e=.returned (.bool (decide (s.wd a=old)))/\Z7 w' L ((s.by who).Wi a old v)/\Only L.has w w':=by
 go_enter Tryz.func146,Tryz.ntmps146
 go_wp2_with (first
  | (go_at_call 96;refine(PO (h.alloc _) _).mono ?_;rintro e w1 ⟨rfl,m1,o1,z1⟩;have k7:=o1.keep (b:=w.heap.size) (o:=7) (v:=(pP L.p 0)) (fun hh=>by have:=h.lt _ hh;omega) (by simp))
  | (go_at_call 153;refine(Ak m1 a ha _ _).mono ?_;rintro e w2 ⟨rfl,m2,o2,z2⟩))
 go_ret
 exact⟨rfl,m2,((Only.refl _ _).alloc _).trans (o1.trans o2)⟩
def Xu (d:Int):Int:=d % 18446744073709551616
theorem Ku {w:World} {L:Loc} {s:Mm} (h:Z7 w L s) (c0 c1 c2 c3 c4 c5 c6 who:Int) (a:Nat) (ha:a<s.n) (d:Int) :
 Calls Tryz.prog 125 #[eV c0 c1 c2 c3 c4 c5 c6 L.p who,iV a,iV d] w fun e w'=>e=.returned (.tuple #[])/\Z7 w' L ((s.by who).step a (sum64 (s.wd a) (Xu d)))/\Only L.has w w':=by
 go_enter Tryz.func125,Tryz.ntmps125
 go_wp2_with (first
  | (go_at_call 96;refine(PO (h.alloc _) _).mono ?_;rintro e w1 ⟨rfl,m1,o1,z1⟩;have k7:=o1.keep (b:=w.heap.size) (o:=7) (v:=(pP L.p 0)) (fun hh=>by have:=h.lt _ hh;omega) (by simp))
  | (go_at_call 143;refine(Aj m1 a ha _).mono ?_;rintro e w2 ⟨rfl,m2,o2,z2⟩))
 go_end0
 exact⟨rfl,m2,((Only.refl _ _).alloc _).trans (o1.trans o2)⟩
theorem GN {w:World} {L:Loc} {s:Mm} (h:Z7 w L s) (c0 c1 c2 c3 c4 c5 c6 who:Int) :
 Calls Tryz.prog 97 #[eV c0 c1 c2 c3 c4 c5 c6 L.p who] w fun e w'=>e=.returned (iV s.steps)/\Below w.heap.size w w':=by
 go_enter Tryz.func97,Tryz.ntmps97
 go_wp2_with (go_at_call 129;refine(I8 (h.alloc _)).mono ?_;rintro e w1 ⟨rfl,rfl⟩)
 go_ret
 exact⟨rfl,Z5 (Below.refl _ _) _⟩
end Go.Proofs.YtibmjlefcaonnaaGreat
