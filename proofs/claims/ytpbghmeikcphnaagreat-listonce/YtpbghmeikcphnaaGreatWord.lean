import Derived.Test.YtpbghmeikcphnaaGreatAbb
import Derived.Test.YtpbghmeikcphnaaGreatRows
import Derived.Test.YtpbghmeikcphnaaGreatMath
import Derived.Test.YtpbghmeikcphnaaGreatOnly
import Derived.Deep.QuietTactic
import Derived.BigQuiet
namespace Go.Proofs.YtpbghmeikcphnaaGreat
open Go.RowKit
section
set_option maxHeartbeats 400000 in
theorem MZ (b:Int) (w:World) (h0:0<=b) (h1:b<64) :
 Calls Tryz.prog 62 #[.int .u64 b] w fun e w'=>e=.returned (.int .u64 (2 ^ b.toNat - 1))/\w'=w:=by
 go_enter Tryz.func62,Tryz.ntmps62
 go_wp2
 go_ret
 exact⟨Y5 (Bf _ (by omega)),rfl⟩
set_option maxHeartbeats 400000 in
theorem put_any (n a b:Int) (w:World) (hn0:-9223372036854775808<=n) (hn1:n<=9223372036854775807) (a0:0<=a) (b0:0<=b) (b1:b<64) (hab:a+b<=64) :
 Calls Tryz.prog 79 #[iV n,.int .u64 a,.int .u64 b] w fun e w'=>e=.returned (.int .u64 (cut n b.toNat * 2 ^ a.toNat))/\w'=w:=by
 by_cases h:n<0
 . go_enter Tryz.func79,Tryz.ntmps79
   go_wp2
   go_ret
   exact⟨Y5 (by rw[Be _ _ h];simp),rfl⟩
 . go_enter Tryz.func79,Tryz.ntmps79
   go_wp2_with (go_at_call 62;refine(MZ _ _ (by omega) (by omega)).mono ?_;rintro e w' ⟨rfl,rfl⟩)
   . go_ret
     refine⟨Y5 ?_,rfl⟩
     have e:=put_eq n a.toNat b.toNat (by omega)
     rw[G6 n b.toNat (by omega) (by omega)] at e ⊢
     exact e
   . go_ret
     refine⟨Y5 ?_,rfl⟩
     have e:=put_eq n a.toNat b.toNat (by omega)
     rw[Y4 n b.toNat (by omega) (by omega)] at e ⊢
     exact e
set_option maxHeartbeats 400000 in
theorem get_any (x a b:Int) (w:World) (x0:0<=x) (x1:x<=18446744073709551615) (a0:0<=a) (a1:a<64) (b0:0<=b) (b1:b<64) :
 Calls Tryz.prog 38 #[.int .u64 x,.int .u64 a,.int .u64 b] w fun e w'=>e=.returned (iV (x / 2 ^ a.toNat % 2 ^ b.toNat))/\w'=w:=by
 go_enter Tryz.func38,Tryz.ntmps38
 go_wp2_with (go_at_call 62;refine(MZ _ _ (by omega) (by omega)).mono ?_;rintro e w' ⟨rfl,rfl⟩)
 go_ret
 exact⟨Y5 (get_eq x a.toNat b.toNat x0 (by omega) (by omega)),rfl⟩
end
section
set_option maxHeartbeats 400000 in
theorem P6 (a b:Int) (w:World) (ha:Fit a) (hb:Fit b) :
 Calls Tryz.prog 131 #[.agg #[iV a,iV b]] w fun e w'=>e=.returned (.int .u64 (Yl a b))/\Below w.heap.size w w':=by
 go_enter Tryz.func131,Tryz.ntmps131
 go_wp2
 go_quiet ((go_at_call 79;exact Calls.quiet_of_same (put_any _ _ _ _ (by first | exact ha.1 | exact hb.1) (by first | exact ha.2 | exact hb.2) (by decide) (by decide) (by decide) (by decide))))
 go_wp2
 go_ret
 exact⟨Y5 (iJ _ _),below_drewN ((Below.refl _ _).alloc (Nat.le_refl _) _) _⟩
set_option maxHeartbeats 400000 in
theorem Yc (a b c d:Int) (w:World) (ha:Fit a) (hb:Fit b) (hc:Fit c) (hd:Fit d) :
 Calls Tryz.prog 58 #[.agg #[iV a,iV b,iV c,iV d]] w fun e w'=>e=.returned (.int .u64 (Zt a b c d))/\Below w.heap.size w w':=by
 go_enter Tryz.func58,Tryz.ntmps58
 go_wp2
 go_quiet ((go_at_call 79;exact Calls.quiet_of_same (put_any _ _ _ _ (by first | exact ha.1 | exact hb.1 | exact hc.1 | exact hd.1) (by first | exact ha.2 | exact hb.2 | exact hc.2 | exact hd.2) (by decide) (by decide) (by decide) (by decide))))
 go_wp2
 go_ret
 exact⟨Y5 (iI _ _ _ _),below_drewN ((Below.refl _ _).alloc (Nat.le_refl _) _) _⟩
set_option maxHeartbeats 400000 in
theorem N8 (a b c d:Int) (w:World) (ha:Fit a) (hb:Fit b) (hc:Fit c) (hd:Fit d) :
 Calls Tryz.prog 152 #[.agg #[iV a,iV b,iV c,iV d]] w fun e w'=>e=.returned (.int .u64 (IP a b c d))/\Below w.heap.size w w':=by
 go_enter Tryz.func152,Tryz.ntmps152
 go_wp2
 go_quiet ((go_at_call 79;exact Calls.quiet_of_same (put_any _ _ _ _ (by first | exact ha.1 | exact hb.1 | exact hc.1 | exact hd.1) (by first | exact ha.2 | exact hb.2 | exact hc.2 | exact hd.2) (by decide) (by decide) (by decide) (by decide))))
 go_wp2
 go_ret
 exact⟨Y5 (iG _ _ _ _),below_drewN ((Below.refl _ _).alloc (Nat.le_refl _) _) _⟩
set_option maxHeartbeats 400000 in
theorem Ny (a b c d:Int) (o:Bool) (w:World) (ha:Fit a) (hb:Fit b) (hc:Fit c) (hd:Fit d) :
 Calls Tryz.prog 130 #[.agg #[iV a,iV b,iV c,iV d,.bool o]] w fun e w'=>e=.returned (.int .u64 (Zh a b c d o))/\Below w.heap.size w w':=by
 go_enter Tryz.func130,Tryz.ntmps130
 go_wp2
 go_quiet ((go_at_call 79;exact Calls.quiet_of_same (put_any _ _ _ _ (by first | exact ha.1 | exact hb.1 | exact hc.1 | exact hd.1) (by first | exact ha.2 | exact hb.2 | exact hc.2 | exact hd.2) (by decide) (by decide) (by decide) (by decide))))
 have e:=iF a b c d
 have h0:=Ql a b c d
 cases o
 . go_wp2
   go_ret
   exact⟨Y5 (by simp[Zh,e]),below_drewN ((Below.refl _ _).alloc (Nat.le_refl _) _) _⟩
 . go_wp2
   go_ret
   exact⟨Y5 (by first | exact rO _ _ _ _ | (rw[e];exact rO _ _ _ _)),below_drewN ((Below.refl _ _).alloc (Nat.le_refl _) _) _⟩
set_option maxHeartbeats 400000 in
theorem Vz (v:Int) (f:Bool) (d:Int) (w:World) (ha:Fit v) (hd:Fit d) :
 Calls Tryz.prog 178 #[.agg #[iV v,.bool f,iV d]] w fun e w'=>e=.returned (.int .u64 (Yo v f d))/\Below w.heap.size w w':=by
 cases f
 . go_enter Tryz.func178,Tryz.ntmps178
   go_wp2_with (go_at_call 79;refine(put_any _ _ _ _ (by first | exact ha.1 | exact hd.1) (by first | exact ha.2 | exact hd.2) (by decide) (by decide) (by decide) (by decide)).mono ?_;rintro e w' ⟨rfl,rfl⟩)
   go_ret
   exact⟨Y5 (by simp[Yo]),(Below.refl _ _).alloc (Nat.le_refl _) _⟩
 . go_enter Tryz.func178,Tryz.ntmps178
   go_wp2_with (go_at_call 79;refine(put_any _ _ _ _ (by first | exact ha.1 | exact hd.1) (by first | exact ha.2 | exact hd.2) (by decide) (by decide) (by decide) (by decide)).mono ?_;rintro e w' ⟨rfl,rfl⟩)
   go_ret
   exact⟨Y5 (iD _ _),(Below.refl _ _).alloc (Nat.le_refl _) _⟩
set_option maxHeartbeats 400000 in
theorem Uk (s c:Int) (w:World) (hs0:-9223372036854775808<=s) (hs1:s<=65535) (hc:Fit c) :
 Calls Tryz.prog 57 #[iV s,iV c] w fun e w'=>e=.returned (.int .u64 (PG (s+1) c))/\w'=w:=by
 go_enter Tryz.func57,Tryz.ntmps57
 go_wp2_with (go_at_call 79;refine(put_any _ _ _ _ (by first | omega | exact hc.1) (by first | omega | exact hc.2) (by decide) (by decide) (by decide) (by decide)).mono ?_;rintro e w' ⟨rfl,rfl⟩)
 go_ret
 exact⟨Y5 (iC _ _),rfl⟩
end
end Go.Proofs.YtpbghmeikcphnaaGreat
