import Derived.Test.YtpbghmeikcphnaaGreatLay
import Derived.Test.YtpbghmeikcphnaaGreatMem
namespace Go.Proofs.YtpbghmeikcphnaaGreat
open Go.RowKit
def Mm.by(s:Mm) (who:Int):Mm:={ s with who:=who }
theorem Zd {w:World} {L:Loc} {s:Mm} (h:Z5 w L s) (c0 c1 c2 c3 c4 c5 c6 who:Int) (a:Nat) (ha:a<s.n) :
 Calls Tryz.prog 105 #[eV c0 c1 c2 c3 c4 c5 c6 L.p who,iV a] w fun e w'=>e=.returned (.int .u64 (s.wd a))/\Z5 w' L ((s.by who).step a (s.wd a))/\Only L.has w w':=by
 go_enter Tryz.func105,Tryz.ntmps105
 go_wp2_with (first
  | (go_at_call 101;refine(OD (h.alloc _) _).mono ?_;rintro e w1 ⟨rfl,m1,o1,z1⟩;have k7:=o1.keep (b:=w.heap.size) (o:=7) (v:=(pP L.p 0)) (fun hh=>by have:=h.lt _ hh;omega) (by simp))
  | (go_at_call 108;refine(Bg m1 a ha).mono ?_;rintro e w2 ⟨rfl,m2,o2,z2⟩))
 go_ret
 exact⟨rfl,m2,((Only.refl _ _).alloc _).trans (o1.trans o2)⟩
theorem Wu {w:World} {L:Loc} {s:Mm} (h:Z5 w L s) (c0 c1 c2 c3 c4 c5 c6 who:Int) (a:Nat) (ha:a<s.n) (v:Int) :
 Calls Tryz.prog 107 #[eV c0 c1 c2 c3 c4 c5 c6 L.p who,iV a,.int .u64 v] w fun e w'=>e=.returned (.tuple #[])/\Z5 w' L ((s.by who).step a v)/\Only L.has w w':=by
 go_enter Tryz.func107,Tryz.ntmps107
 go_wp2_with (first
  | (go_at_call 101;refine(OD (h.alloc _) _).mono ?_;rintro e w1 ⟨rfl,m1,o1,z1⟩;have k7:=o1.keep (b:=w.heap.size) (o:=7) (v:=(pP L.p 0)) (fun hh=>by have:=h.lt _ hh;omega) (by simp))
  | (go_at_call 55;refine(TM m1 a ha _).mono ?_;rintro e w2 ⟨rfl,m2,o2,z2⟩))
 go_end0
 exact⟨rfl,m2,((Only.refl _ _).alloc _).trans (o1.trans o2)⟩
theorem X6 {w:World} {L:Loc} {s:Mm} (h:Z5 w L s) (c0 c1 c2 c3 c4 c5 c6 who:Int) (a:Nat) (ha:a<s.n) (old v:Int) :
 Calls Tryz.prog 147 #[eV c0 c1 c2 c3 c4 c5 c6 L.p who,iV a,.int .u64 old,.int .u64 v] w fun e w'=>e=.returned (.bool (decide (s.wd a=old)))/\Z5 w' L ((s.by who).VD a old v)/\Only L.has w w':=by
 go_enter Tryz.func147,Tryz.ntmps147
 go_wp2_with (first
  | (go_at_call 101;refine(OD (h.alloc _) _).mono ?_;rintro e w1 ⟨rfl,m1,o1,z1⟩;have k7:=o1.keep (b:=w.heap.size) (o:=7) (v:=(pP L.p 0)) (fun hh=>by have:=h.lt _ hh;omega) (by simp))
  | (go_at_call 154;refine(yg m1 a ha _ _).mono ?_;rintro e w2 ⟨rfl,m2,o2,z2⟩))
 go_ret
 exact⟨rfl,m2,((Only.refl _ _).alloc _).trans (o1.trans o2)⟩
def Xl (d:Int):Int:=d % 18446744073709551616
theorem Jk {w:World} {L:Loc} {s:Mm} (h:Z5 w L s) (c0 c1 c2 c3 c4 c5 c6 who:Int) (a:Nat) (ha:a<s.n) (d:Int) :
 Calls Tryz.prog 128 #[eV c0 c1 c2 c3 c4 c5 c6 L.p who,iV a,iV d] w fun e w'=>e=.returned (.tuple #[])/\Z5 w' L ((s.by who).step a (sum64 (s.wd a) (Xl d)))/\Only L.has w w':=by
 go_enter Tryz.func128,Tryz.ntmps128
 go_wp2_with (first
  | (go_at_call 101;refine(OD (h.alloc _) _).mono ?_;rintro e w1 ⟨rfl,m1,o1,z1⟩;have k7:=o1.keep (b:=w.heap.size) (o:=7) (v:=(pP L.p 0)) (fun hh=>by have:=h.lt _ hh;omega) (by simp))
  | (go_at_call 144;refine(yc m1 a ha _).mono ?_;rintro e w2 ⟨rfl,m2,o2,z2⟩))
 go_end0
 exact⟨rfl,m2,((Only.refl _ _).alloc _).trans (o1.trans o2)⟩
theorem EX {w:World} {L:Loc} {s:Mm} (h:Z5 w L s) (c0 c1 c2 c3 c4 c5 c6 who:Int) :
 Calls Tryz.prog 14 #[eV c0 c1 c2 c3 c4 c5 c6 L.p who] w fun e w'=>e=.returned (iV s.steps)/\Below w.heap.size w w':=by
 go_enter Tryz.func14,Tryz.ntmps14
 go_wp2_with (go_at_call 30;refine(Ha (h.alloc _)).mono ?_;rintro e w1 ⟨rfl,rfl⟩)
 go_ret
 exact⟨rfl,Z4 (Below.refl _ _) _⟩
end Go.Proofs.YtpbghmeikcphnaaGreat
