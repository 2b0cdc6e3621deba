import Derived.Test.YtmnnhjhhhfabiaaGreatMath
import Derived.Test.YtmnnhjhhhfabiaaGreatRows
import Derived.Test.YtmnnhjhhhfabiaaGreatLay
import Derived.Deep.QuietTactic
import Derived.BigQuiet
namespace Go.Proofs.YtmnnhjhhhfabiaaGreat
open Go.RowKit
section
set_option maxHeartbeats 400000 in
theorem MI (b : Int) (w : World) (h0 : 0 <= b) (h1 : b < 64) :
 Calls Tryz.prog 84 #[.int .u64 b] w fun e w'=>e = .returned (.int .u64 (2 ^ b.toNat - 1)) /\ w' = w:=by
 go_enter Tryz.func84,Tryz.ntmps84
 go_wp2
 go_ret
 exact ⟨YS (yF _ (by omega)),rfl⟩
set_option maxHeartbeats 400000 in
theorem put_any (n a b : Int) (w : World) (hn0 : -9223372036854775808 <= n) (hn1 : n <= 9223372036854775807) (a0 : 0 <= a) (b0 : 0 <= b) (b1 : b < 64) (hab : a + b <= 64) :
 Calls Tryz.prog 65 #[iV n,.int .u64 a,.int .u64 b] w fun e w'=>e = .returned (.int .u64 (cut n b.toNat * 2 ^ a.toNat)) /\ w' = w:=by
 by_cases h : n < 0
 · go_enter Tryz.func65,Tryz.ntmps65
   go_wp2
   go_ret
   exact ⟨YS (by rw [yE _ _ h];simp),rfl⟩
 · go_enter Tryz.func65,Tryz.ntmps65
   go_wp2_with (go_at_call 84;refine (MI _ _ (by omega) (by omega)).mono ?_;rintro e w' ⟨rfl,rfl⟩)
   · go_ret
     refine ⟨YS ?_,rfl⟩
     have e:=put_eq n a.toNat b.toNat (by omega)
     rw [FM n b.toNat (by omega) (by omega)] at e ⊢
     exact e
   · go_ret
     refine ⟨YS ?_,rfl⟩
     have e:=put_eq n a.toNat b.toNat (by omega)
     rw [YI n b.toNat (by omega) (by omega)] at e ⊢
     exact e
set_option maxHeartbeats 400000 in
theorem get_any (x a b : Int) (w : World) (x0 : 0 <= x) (x1 : x <= 18446744073709551615) (a0 : 0 <= a) (a1 : a < 64) (b0 : 0 <= b) (b1 : b < 64) :
 Calls Tryz.prog 44 #[.int .u64 x,.int .u64 a,.int .u64 b] w fun e w'=>e = .returned (iV (x / 2 ^ a.toNat % 2 ^ b.toNat)) /\ w' = w:=by
 go_enter Tryz.func44,Tryz.ntmps44
 go_wp2_with (go_at_call 84;refine (MI _ _ (by omega) (by omega)).mono ?_;rintro e w' ⟨rfl,rfl⟩)
 go_ret
 exact ⟨YS (get_eq x a.toNat b.toNat x0 (by omega) (by omega)),rfl⟩
end
section
set_option maxHeartbeats 400000 in
theorem Qe (a b : Int) (w : World) (ha : Fit a) (hb : Fit b) :
 Calls Tryz.prog 123 #[.agg #[iV a,iV b]] w fun e w'=>e = .returned (.int .u64 (YL a b)) /\ Below w.heap.size w w':=by
 go_enter Tryz.func123,Tryz.ntmps123
 go_wp2
 go_quiet ((go_at_call 65;exact Calls.quiet_of_same (put_any _ _ _ _ (by first | exact ha.1 | exact hb.1) (by first | exact ha.2 | exact hb.2) (by decide) (by decide) (by decide) (by decide))))
 go_wp2
 go_ret
 exact ⟨YS (lU _ _),below_drewN ((Below.refl _ _).alloc (Nat.le_refl _) _) _⟩
set_option maxHeartbeats 400000 in
theorem YR (a b c d : Int) (w : World) (ha : Fit a) (hb : Fit b) (hc : Fit c) (hd : Fit d) :
 Calls Tryz.prog 71 #[.agg #[iV a,iV b,iV c,iV d]] w fun e w'=>e = .returned (.int .u64 (Zp a b c d)) /\ Below w.heap.size w w':=by
 go_enter Tryz.func71,Tryz.ntmps71
 go_wp2
 go_quiet ((go_at_call 65;exact Calls.quiet_of_same (put_any _ _ _ _ (by first | exact ha.1 | exact hb.1 | exact hc.1 | exact hd.1) (by first | exact ha.2 | exact hb.2 | exact hc.2 | exact hd.2) (by decide) (by decide) (by decide) (by decide))))
 go_wp2
 go_ret
 exact ⟨YS (lT _ _ _ _),below_drewN ((Below.refl _ _).alloc (Nat.le_refl _) _) _⟩
set_option maxHeartbeats 400000 in
theorem NY (a b c d : Int) (w : World) (ha : Fit a) (hb : Fit b) (hc : Fit c) (hd : Fit d) :
 Calls Tryz.prog 145 #[.agg #[iV a,iV b,iV c,iV d]] w fun e w'=>e = .returned (.int .u64 (IB a b c d)) /\ Below w.heap.size w w':=by
 go_enter Tryz.func145,Tryz.ntmps145
 go_wp2
 go_quiet ((go_at_call 65;exact Calls.quiet_of_same (put_any _ _ _ _ (by first | exact ha.1 | exact hb.1 | exact hc.1 | exact hd.1) (by first | exact ha.2 | exact hb.2 | exact hc.2 | exact hd.2) (by decide) (by decide) (by decide) (by decide))))
 go_wp2
 go_ret
 exact ⟨YS (lQ _ _ _ _),below_drewN ((Below.refl _ _).alloc (Nat.le_refl _) _) _⟩
set_option maxHeartbeats 400000 in
theorem Su (a b c d : Int) (o : Bool) (w : World) (ha : Fit a) (hb : Fit b) (hc : Fit c) (hd : Fit d) :
 Calls Tryz.prog 35 #[.agg #[iV a,iV b,iV c,iV d,.bool o]] w fun e w'=>e = .returned (.int .u64 (Zg a b c d o)) /\ Below w.heap.size w w':=by
 go_enter Tryz.func35,Tryz.ntmps35
 go_wp2
 go_quiet ((go_at_call 65;exact Calls.quiet_of_same (put_any _ _ _ _ (by first | exact ha.1 | exact hb.1 | exact hc.1 | exact hd.1) (by first | exact ha.2 | exact hb.2 | exact hc.2 | exact hd.2) (by decide) (by decide) (by decide) (by decide))))
 have e:=lN a b c d
 have h0:=Qx a b c d
 cases o
 · go_wp2
   go_ret
   exact ⟨YS (by simp [Zg,e]),below_drewN ((Below.refl _ _).alloc (Nat.le_refl _) _) _⟩
 · go_wp2
   go_ret
   exact ⟨YS (by first | exact su _ _ _ _ | (rw [e];exact su _ _ _ _)),below_drewN ((Below.refl _ _).alloc (Nat.le_refl _) _) _⟩
set_option maxHeartbeats 400000 in
theorem XG (v : Int) (f : Bool) (d : Int) (w : World) (ha : Fit v) (hd : Fit d) :
 Calls Tryz.prog 175 #[.agg #[iV v,.bool f,iV d]] w fun e w'=>e = .returned (.int .u64 (XP v f d)) /\ Below w.heap.size w w':=by
 cases f
 · go_enter Tryz.func175,Tryz.ntmps175
   go_wp2_with (go_at_call 65;refine (put_any _ _ _ _ (by first | exact ha.1 | exact hd.1) (by first | exact ha.2 | exact hd.2) (by decide) (by decide) (by decide) (by decide)).mono ?_;rintro e w' ⟨rfl,rfl⟩)
   go_ret
   exact ⟨YS (by simp [XP]),(Below.refl _ _).alloc (Nat.le_refl _) _⟩
 · go_enter Tryz.func175,Tryz.ntmps175
   go_wp2_with (go_at_call 65;refine (put_any _ _ _ _ (by first | exact ha.1 | exact hd.1) (by first | exact ha.2 | exact hd.2) (by decide) (by decide) (by decide) (by decide)).mono ?_;rintro e w' ⟨rfl,rfl⟩)
   go_ret
   exact ⟨YS (lM _ _),(Below.refl _ _).alloc (Nat.le_refl _) _⟩
set_option maxHeartbeats 400000 in
theorem Um (s c : Int) (w : World) (hs0 : -9223372036854775808 <= s) (hs1 : s <= 65535) (hc : Fit c) :
 Calls Tryz.prog 70 #[iV s,iV c] w fun e w'=>e = .returned (.int .u64 (Pn (s + 1) c)) /\ w' = w:=by
 go_enter Tryz.func70,Tryz.ntmps70
 go_wp2_with (go_at_call 65;refine (put_any _ _ _ _ (by first | omega | exact hc.1) (by first | omega | exact hc.2) (by decide) (by decide) (by decide) (by decide)).mono ?_;rintro e w' ⟨rfl,rfl⟩)
 go_ret
 exact ⟨YS (lL _ _),rfl⟩
end
end Go.Proofs.YtmnnhjhhhfabiaaGreat
