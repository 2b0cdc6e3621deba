import Derived.Test.YtgehjolndmgffaaGreatAbb
import Derived.Test.YtgehjolndmgffaaGreatRows
import Derived.Test.YtgehjolndmgffaaGreatMath
import Derived.Test.YtgehjolndmgffaaGreatLay
import Derived.Deep.QuietTactic
import Derived.BigQuiet
namespace Go.Proofs.YtgehjolndmgffaaGreat
open Go.RowKit
section
set_option maxHeartbeats 400000 in
theorem NK (b:Int) (w:World) (h0:0<=b) (h1:b<64) :
 Calls Tryz.prog 69 #[.int .u64 b] w fun e w'=>e=.returned (.int .u64 (2 ^ b.toNat - 1))/\w'=w:=by
 go_enter Tryz.func69,Tryz.ntmps69
 go_wp2
 go_ret
 exact⟨Zi (BX _ (by omega)),rfl⟩
set_option maxHeartbeats 400000 in
theorem put_any (n a b:Int) (w:World) (hn0:-9223372036854775808<=n) (hn1:n<=9223372036854775807) (a0:0<=a) (b0:0<=b) (b1:b<64) (hab:a+b<=64) :
 Calls Tryz.prog 63 #[iV n,.int .u64 a,.int .u64 b] w fun e w'=>e=.returned (.int .u64 (cut n b.toNat * 2 ^ a.toNat))/\w'=w:=by
 by_cases h:n<0
 . go_enter Tryz.func63,Tryz.ntmps63
   go_wp2
   go_ret
   exact⟨Zi (by rw[BV _ _ h];simp),rfl⟩
 . go_enter Tryz.func63,Tryz.ntmps63
   go_wp2_with (go_at_call 69;refine(NK _ _ (by omega) (by omega)).mono ?_;rintro e w' ⟨rfl,rfl⟩)
   . go_ret
     refine⟨Zi ?_,rfl⟩
     have e:=put_eq n a.toNat b.toNat (by omega)
     rw[Il n b.toNat (by omega) (by omega)] at e ⊢
     exact e
   . go_ret
     refine⟨Zi ?_,rfl⟩
     have e:=put_eq n a.toNat b.toNat (by omega)
     rw[Ze n b.toNat (by omega) (by omega)] at e ⊢
     exact e
set_option maxHeartbeats 400000 in
theorem get_any (x a b:Int) (w:World) (x0:0<=x) (x1:x<=18446744073709551615) (a0:0<=a) (a1:a<64) (b0:0<=b) (b1:b<64) :
 Calls Tryz.prog 159 #[.int .u64 x,.int .u64 a,.int .u64 b] w fun e w'=>e=.returned (iV (x / 2 ^ a.toNat % 2 ^ b.toNat))/\w'=w:=by
 go_enter Tryz.func159,Tryz.ntmps159
 go_wp2_with (go_at_call 69;refine(NK _ _ (by omega) (by omega)).mono ?_;rintro e w' ⟨rfl,rfl⟩)
 go_ret
 exact⟨Zi (get_eq x a.toNat b.toNat x0 (by omega) (by omega)),rfl⟩
end
section
set_option maxHeartbeats 400000 in
theorem QM (a b:Int) (w:World) (ha:Fit a) (hb:Fit b) :
 Calls Tryz.prog 153 #[.agg #[iV a,iV b]] w fun e w'=>e=.returned (.int .u64 (Zc a b))/\Below w.heap.size w w':=by
 go_enter Tryz.func153,Tryz.ntmps153
 go_wp2
 go_quiet ((go_at_call 63;exact Calls.quiet_of_same (put_any _ _ _ _ (by first | exact ha.1 | exact hb.1) (by first | exact ha.2 | exact hb.2) (by decide) (by decide) (by decide) (by decide))))
 go_wp2
 go_ret
 exact⟨Zi (oJ _ _),below_drewN ((Below.refl _ _).alloc (Nat.le_refl _) _) _⟩
set_option maxHeartbeats 400000 in
theorem Yo (a b c d:Int) (w:World) (ha:Fit a) (hb:Fit b) (hc:Fit c) (hd:Fit d) :
 Calls Tryz.prog 52 #[.agg #[iV a,iV b,iV c,iV d]] w fun e w'=>e=.returned (.int .u64 (Zq a b c d))/\Below w.heap.size w w':=by
 go_enter Tryz.func52,Tryz.ntmps52
 go_wp2
 go_quiet ((go_at_call 63;exact Calls.quiet_of_same (put_any _ _ _ _ (by first | exact ha.1 | exact hb.1 | exact hc.1 | exact hd.1) (by first | exact ha.2 | exact hb.2 | exact hc.2 | exact hd.2) (by decide) (by decide) (by decide) (by decide))))
 go_wp2
 go_ret
 exact⟨Zi (oH _ _ _ _),below_drewN ((Below.refl _ _).alloc (Nat.le_refl _) _) _⟩
set_option maxHeartbeats 400000 in
theorem OZ (a b c d:Int) (w:World) (ha:Fit a) (hb:Fit b) (hc:Fit c) (hd:Fit d) :
 Calls Tryz.prog 175 #[.agg #[iV a,iV b,iV c,iV d]] w fun e w'=>e=.returned (.int .u64 (JA a b c d))/\Below w.heap.size w w':=by
 go_enter Tryz.func175,Tryz.ntmps175
 go_wp2
 go_quiet ((go_at_call 63;exact Calls.quiet_of_same (put_any _ _ _ _ (by first | exact ha.1 | exact hb.1 | exact hc.1 | exact hd.1) (by first | exact ha.2 | exact hb.2 | exact hc.2 | exact hd.2) (by decide) (by decide) (by decide) (by decide))))
 go_wp2
 go_ret
 exact⟨Zi (oG _ _ _ _),below_drewN ((Below.refl _ _).alloc (Nat.le_refl _) _) _⟩
set_option maxHeartbeats 400000 in
theorem Oa (a b c d:Int) (o:Bool) (w:World) (ha:Fit a) (hb:Fit b) (hc:Fit c) (hd:Fit d) :
 Calls Tryz.prog 152 #[.agg #[iV a,iV b,iV c,iV d,.bool o]] w fun e w'=>e=.returned (.int .u64 (Zg a b c d o))/\Below w.heap.size w w':=by
 go_enter Tryz.func152,Tryz.ntmps152
 go_wp2
 go_quiet ((go_at_call 63;exact Calls.quiet_of_same (put_any _ _ _ _ (by first | exact ha.1 | exact hb.1 | exact hc.1 | exact hd.1) (by first | exact ha.2 | exact hb.2 | exact hc.2 | exact hd.2) (by decide) (by decide) (by decide) (by decide))))
 have e:=oD a b c d
 have h0:=Ri a b c d
 cases o
 . go_wp2
   go_ret
   exact⟨Zi (by simp[Zg,e]),below_drewN ((Below.refl _ _).alloc (Nat.le_refl _) _) _⟩
 . go_wp2
   go_ret
   exact⟨Zi (by first | exact wB _ _ _ _ | (rw[e];exact wB _ _ _ _)),below_drewN ((Below.refl _ _).alloc (Nat.le_refl _) _) _⟩
set_option maxHeartbeats 400000 in
theorem Wp (v:Int) (f:Bool) (d:Int) (w:World) (ha:Fit v) (hd:Fit d) :
 Calls Tryz.prog 203 #[.agg #[iV v,.bool f,iV d]] w fun e w'=>e=.returned (.int .u64 (XU v f d))/\Below w.heap.size w w':=by
 cases f
 . go_enter Tryz.func203,Tryz.ntmps203
   go_wp2_with (go_at_call 63;refine(put_any _ _ _ _ (by first | exact ha.1 | exact hd.1) (by first | exact ha.2 | exact hd.2) (by decide) (by decide) (by decide) (by decide)).mono ?_;rintro e w' ⟨rfl,rfl⟩)
   go_ret
   exact⟨Zi (by simp[XU]),(Below.refl _ _).alloc (Nat.le_refl _) _⟩
 . go_enter Tryz.func203,Tryz.ntmps203
   go_wp2_with (go_at_call 63;refine(put_any _ _ _ _ (by first | exact ha.1 | exact hd.1) (by first | exact ha.2 | exact hd.2) (by decide) (by decide) (by decide) (by decide)).mono ?_;rintro e w' ⟨rfl,rfl⟩)
   go_ret
   exact⟨Zi (oC _ _),(Below.refl _ _).alloc (Nat.le_refl _) _⟩
set_option maxHeartbeats 400000 in
theorem U9 (s c:Int) (w:World) (hs0:-9223372036854775808<=s) (hs1:s<=65535) (hc:Fit c) :
 Calls Tryz.prog 50 #[iV s,iV c] w fun e w'=>e=.returned (.int .u64 (Qo (s+1) c))/\w'=w:=by
 go_enter Tryz.func50,Tryz.ntmps50
 go_wp2_with (go_at_call 63;refine(put_any _ _ _ _ (by first | omega | exact hc.1) (by first | omega | exact hc.2) (by decide) (by decide) (by decide) (by decide)).mono ?_;rintro e w' ⟨rfl,rfl⟩)
 go_ret
 exact⟨Zi (oz _ _),rfl⟩
end
end Go.Proofs.YtgehjolndmgffaaGreat
