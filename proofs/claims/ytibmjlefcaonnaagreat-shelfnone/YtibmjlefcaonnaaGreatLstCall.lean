import Derived.Test.YtibmjlefcaonnaaGreatLstOn
import Derived.Test.YtibmjlefcaonnaaGreatLstWant
namespace Go.Proofs.YtibmjlefcaonnaaGreat
open Go.RowKit
def XH (kd ky:Int):Bool:=decide (1<=kd) && decide (kd<=3) && decide (0<=ky) && decide (ky<1073741824)
theorem VC (kd ky:Int) (w:World):Calls Tryz.prog 39 #[iV kd,iV ky] w fun e w'=>e=.returned (.bool (XH kd ky))/\w'=w:=by
 by_cases h1:(1:Int)<=kd
 . by_cases h2:kd<=3
   . by_cases h3:(0:Int)<=ky
     . by_cases h4:ky<1073741824
       . go_enter Tryz.func39,Tryz.ntmps39
         go_wp2
         go_ret
         exact⟨by simp[XH,h1,h2,h3,h4],rfl⟩
       . rw[show XH kd ky=false from by rw[XH,decide_eq_false h4,Bool.and_false]]
         go_enter Tryz.func39,Tryz.ntmps39
         go_wp2
         go_ret
         exact⟨rfl,rfl⟩
     . rw[show XH kd ky=false from by rw[XH,decide_eq_false h3,Bool.and_false,Bool.false_and]]
       go_enter Tryz.func39,Tryz.ntmps39
       go_wp2
       go_ret
       exact⟨rfl,rfl⟩
   . rw[show XH kd ky=false from by rw[XH,decide_eq_false h2,Bool.and_false,Bool.false_and,Bool.false_and]]
     go_enter Tryz.func39,Tryz.ntmps39
     go_wp2
     go_ret
     exact⟨rfl,rfl⟩
 . rw[show XH kd ky=false from by rw[XH,decide_eq_false h1,Bool.false_and,Bool.false_and,Bool.false_and]]
   go_enter Tryz.func39,Tryz.ntmps39
   go_wp2
   go_ret
   exact⟨rfl,rfl⟩
def Gy (kd ky hd:Int):Lr:=⟨kd,ky,hd,0,0,0,0,0,0,0,0,0,0,0,0⟩
theorem Np (kd ky hd:Int) (hm:XH kd ky=true) (w:World):Calls Tryz.prog 23 #[iV kd,iV ky,.int .u64 hd] w fun e w'=>∃ b,e=.returned (.tuple #[pP b 0,iV 0])/\Il w' b (.pointer none) (Gy kd ky hd)/\Below w.heap.size w w'/\w.heap.size<=b:=by
 have q:=VC kd ky w
 rw[hm] at q
 clear hm
 go_enter Tryz.func23,Tryz.ntmps23
 go_wp2_with (go_at_call 39;refine q.mono ?_;rintro e w1 ⟨rfl,rfl⟩)
 go_ret2
 exact⟨w1.heap.size,rfl,⟨_,At.new w1 67 _⟩,Z7 (Below.refl _ _) _,Nat.le_refl _⟩
theorem Nl (kd ky hd:Int) (hm:XH kd ky=false) (w:World):Calls Tryz.prog 23 #[iV kd,iV ky,.int .u64 hd] w fun e w'=>e=.returned (.tuple #[.pointer none,iV 1])/\w'=w:=by
 have q:=VC kd ky w
 rw[hm] at q
 clear hm
 go_enter Tryz.func23,Tryz.ntmps23
 go_wp2_with (go_at_call 39;refine q.mono ?_;rintro e w1 ⟨rfl,rfl⟩)
 go_ret2
 exact⟨rfl,rfl⟩
end Go.Proofs.YtibmjlefcaonnaaGreat
