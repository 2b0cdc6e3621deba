import Derived.Test.YtpbghmeikcphnabGreatAbb
import Derived.Test.YtpbghmeikcphnabGreatRows
import Derived.Test.YtpbghmeikcphnabGreatMath
import Derived.Test.YtpbghmeikcphnabGreatLstChain
import Derived.Deep.QuietTactic
import Derived.BigQuiet
namespace Go.Proofs.YtpbghmeikcphnabGreat
open Go.RowKit
section
set_option maxHeartbeats 400000 in
theorem MX (b:Int) (w:World) (h0:0<=b) (h1:b<64) :
 Calls Tryz.prog 74 #[.int .u64 b] w fun e w'=>e=.returned (.int .u64 (2 ^ b.toNat - 1))/\w'=w:=by
 go_enter Tryz.func74,Tryz.ntmps74
 go_wp2
 go_ret
 exact⟨YX (Aa _ (by omega)),rfl⟩
set_option maxHeartbeats 400000 in
theorem put_any (n a b:Int) (w:World) (hn0:-9223372036854775808<=n) (hn1:n<=9223372036854775807) (a0:0<=a) (b0:0<=b) (b1:b<64) (hab:a+b<=64) :
 Calls Tryz.prog 68 #[iV n,.int .u64 a,.int .u64 b] w fun e w'=>e=.returned (.int .u64 (cut n b.toNat * 2 ^ a.toNat))/\w'=w:=by
 by_cases h:n<0
 . go_enter Tryz.func68,Tryz.ntmps68
   go_wp2
   go_ret
   exact⟨YX (by rw[zZ _ _ h];simp),rfl⟩
 . go_enter Tryz.func68,Tryz.ntmps68
   go_wp2_with (go_at_call 74;refine(MX _ _ (by omega) (by omega)).mono ?_;rintro e w' ⟨rfl,rfl⟩)
   . go_ret
     refine⟨YX ?_,rfl⟩
     have e:=put_eq n a.toNat b.toNat (by omega)
     rw[Gu n b.toNat (by omega) (by omega)] at e ⊢
     exact e
   . go_ret
     refine⟨YX ?_,rfl⟩
     have e:=put_eq n a.toNat b.toNat (by omega)
     rw[YV n b.toNat (by omega) (by omega)] at e ⊢
     exact e
set_option maxHeartbeats 400000 in
theorem get_any (x a b:Int) (w:World) (x0:0<=x) (x1:x<=18446744073709551615) (a0:0<=a) (a1:a<64) (b0:0<=b) (b1:b<64) :
 Calls Tryz.prog 128 #[.int .u64 x,.int .u64 a,.int .u64 b] w fun e w'=>e=.returned (iV (x / 2 ^ a.toNat % 2 ^ b.toNat))/\w'=w:=by
 go_enter Tryz.func128,Tryz.ntmps128
 go_wp2_with (go_at_call 74;refine(MX _ _ (by omega) (by omega)).mono ?_;rintro e w' ⟨rfl,rfl⟩)
 go_ret
 exact⟨YX (get_eq x a.toNat b.toNat x0 (by omega) (by omega)),rfl⟩
end
section
set_option maxHeartbeats 400000 in
theorem Qa (a b:Int) (w:World) (ha:Fit a) (hb:Fit b) :
 Calls Tryz.prog 122 #[.agg #[iV a,iV b]] w fun e w'=>e=.returned (.int .u64 (X7 a b))/\Below w.heap.size w w':=by
 go_enter Tryz.func122,Tryz.ntmps122
 go_wp2
 go_quiet ((go_at_call 68;exact Calls.quiet_of_same (put_any _ _ _ _ (by first | exact ha.1 | exact hb.1) (by first | exact ha.2 | exact hb.2) (by decide) (by decide) (by decide) (by decide))))
 go_wp2
 go_ret
 exact⟨YX (jq _ _),below_drewN ((Below.refl _ _).alloc (Nat.le_refl _) _) _⟩
set_option maxHeartbeats 400000 in
theorem Yk (a b c d:Int) (w:World) (ha:Fit a) (hb:Fit b) (hc:Fit c) (hd:Fit d) :
 Calls Tryz.prog 48 #[.agg #[iV a,iV b,iV c,iV d]] w fun e w'=>e=.returned (.int .u64 (Zu a b c d))/\Below w.heap.size w w':=by
 go_enter Tryz.func48,Tryz.ntmps48
 go_wp2
 go_quiet ((go_at_call 68;exact Calls.quiet_of_same (put_any _ _ _ _ (by first | exact ha.1 | exact hb.1 | exact hc.1 | exact hd.1) (by first | exact ha.2 | exact hb.2 | exact hc.2 | exact hd.2) (by decide) (by decide) (by decide) (by decide))))
 go_wp2
 go_ret
 exact⟨YX (jo _ _ _ _),below_drewN ((Below.refl _ _).alloc (Nat.le_refl _) _) _⟩
set_option maxHeartbeats 400000 in
theorem N8 (a b c d:Int) (w:World) (ha:Fit a) (hb:Fit b) (hc:Fit c) (hd:Fit d) :
 Calls Tryz.prog 144 #[.agg #[iV a,iV b,iV c,iV d]] w fun e w'=>e=.returned (.int .u64 (Ir a b c d))/\Below w.heap.size w w':=by
 go_enter Tryz.func144,Tryz.ntmps144
 go_wp2
 go_quiet ((go_at_call 68;exact Calls.quiet_of_same (put_any _ _ _ _ (by first | exact ha.1 | exact hb.1 | exact hc.1 | exact hd.1) (by first | exact ha.2 | exact hb.2 | exact hc.2 | exact hd.2) (by decide) (by decide) (by decide) (by decide))))
 go_wp2
 go_ret
 exact⟨YX (jl _ _ _ _),below_drewN ((Below.refl _ _).alloc (Nat.le_refl _) _) _⟩
set_option maxHeartbeats 400000 in
theorem Nu (a b c d:Int) (o:Bool) (w:World) (ha:Fit a) (hb:Fit b) (hc:Fit c) (hd:Fit d) :
 Calls Tryz.prog 121 #[.agg #[iV a,iV b,iV c,iV d,.bool o]] w fun e w'=>e=.returned (.int .u64 (Y9 a b c d o))/\Below w.heap.size w w':=by
 go_enter Tryz.func121,Tryz.ntmps121
 go_wp2
 go_quiet ((go_at_call 68;exact Calls.quiet_of_same (put_any _ _ _ _ (by first | exact ha.1 | exact hb.1 | exact hc.1 | exact hd.1) (by first | exact ha.2 | exact hb.2 | exact hc.2 | exact hd.2) (by decide) (by decide) (by decide) (by decide))))
 have e:=jh a b c d
 have h0:=Qr a b c d
 cases o
 . go_wp2
   go_ret
   exact⟨YX (by simp[Y9,e]),below_drewN ((Below.refl _ _).alloc (Nat.le_refl _) _) _⟩
 . go_wp2
   go_ret
   exact⟨YX (by first | exact ru _ _ _ _ | (rw[e];exact ru _ _ _ _)),below_drewN ((Below.refl _ _).alloc (Nat.le_refl _) _) _⟩
set_option maxHeartbeats 400000 in
theorem Ws (v:Int) (f:Bool) (d:Int) (w:World) (ha:Fit v) (hd:Fit d) :
 Calls Tryz.prog 171 #[.agg #[iV v,.bool f,iV d]] w fun e w'=>e=.returned (.int .u64 (Yj v f d))/\Below w.heap.size w w':=by
 cases f
 . go_enter Tryz.func171,Tryz.ntmps171
   go_wp2_with (go_at_call 68;refine(put_any _ _ _ _ (by first | exact ha.1 | exact hd.1) (by first | exact ha.2 | exact hd.2) (by decide) (by decide) (by decide) (by decide)).mono ?_;rintro e w' ⟨rfl,rfl⟩)
   go_ret
   exact⟨YX (by simp[Yj]),(Below.refl _ _).alloc (Nat.le_refl _) _⟩
 . go_enter Tryz.func171,Tryz.ntmps171
   go_wp2_with (go_at_call 68;refine(put_any _ _ _ _ (by first | exact ha.1 | exact hd.1) (by first | exact ha.2 | exact hd.2) (by decide) (by decide) (by decide) (by decide)).mono ?_;rintro e w' ⟨rfl,rfl⟩)
   go_ret
   exact⟨YX (jg _ _),(Below.refl _ _).alloc (Nat.le_refl _) _⟩
set_option maxHeartbeats 400000 in
theorem TW (s c:Int) (w:World) (hs0:-9223372036854775808<=s) (hs1:s<=65535) (hc:Fit c) :
 Calls Tryz.prog 46 #[iV s,iV c] w fun e w'=>e=.returned (.int .u64 (PE (s+1) c))/\w'=w:=by
 go_enter Tryz.func46,Tryz.ntmps46
 go_wp2_with (go_at_call 68;refine(put_any _ _ _ _ (by first | omega | exact hc.1) (by first | omega | exact hc.2) (by decide) (by decide) (by decide) (by decide)).mono ?_;rintro e w' ⟨rfl,rfl⟩)
 go_ret
 exact⟨YX (je _ _),rfl⟩
end
end Go.Proofs.YtpbghmeikcphnabGreat
