import Derived.Test.YtibmjlefcaonnaaGreatAbb
import Derived.Test.YtibmjlefcaonnaaGreatRows
import Derived.Test.YtibmjlefcaonnaaGreatMath
import Derived.Test.YtibmjlefcaonnaaGreatOnly
import Derived.Deep.QuietTactic
import Derived.BigQuiet
namespace Go.Proofs.YtibmjlefcaonnaaGreat
open Go.RowKit
section
set_option maxHeartbeats 400000 in
theorem Ol (b:Int) (w:World) (h0:0<=b) (h1:b<64) :
 Calls Tryz.prog 74 #[.int .u64 b] w fun e w'=>e=.returned (.int .u64 (2 ^ b.toNat - 1))/\w'=w:=by
 go_enter Tryz.func74,Tryz.ntmps74
 go_wp2
 go_ret
 exact⟨Zg (DC _ (by omega)),rfl⟩
set_option maxHeartbeats 400000 in
theorem put_any (n a b:Int) (w:World) (hn0:-9223372036854775808<=n) (hn1:n<=9223372036854775807) (a0:0<=a) (b0:0<=b) (b1:b<64) (hab:a+b<=64) :
 Calls Tryz.prog 55 #[iV n,.int .u64 a,.int .u64 b] w fun e w'=>e=.returned (.int .u64 (cut n b.toNat * 2 ^ a.toNat))/\w'=w:=by
 by_cases h:n<0
 . go_enter Tryz.func55,Tryz.ntmps55
   go_wp2
   go_ret
   exact⟨Zg (by rw[Dz _ _ h];simp),rfl⟩
 . go_enter Tryz.func55,Tryz.ntmps55
   go_wp2_with (go_at_call 74;refine(Ol _ _ (by omega) (by omega)).mono ?_;rintro e w' ⟨rfl,rfl⟩)
   . go_ret
     refine⟨Zg ?_,rfl⟩
     have e:=put_eq n a.toNat b.toNat (by omega)
     rw[IY n b.toNat (by omega) (by omega)] at e ⊢
     exact e
   . go_ret
     refine⟨Zg ?_,rfl⟩
     have e:=put_eq n a.toNat b.toNat (by omega)
     rw[Y8 n b.toNat (by omega) (by omega)] at e ⊢
     exact e
set_option maxHeartbeats 400000 in
theorem get_any (x a b:Int) (w:World) (x0:0<=x) (x1:x<=18446744073709551615) (a0:0<=a) (a1:a<64) (b0:0<=b) (b1:b<64) :
 Calls Tryz.prog 135 #[.int .u64 x,.int .u64 a,.int .u64 b] w fun e w'=>e=.returned (iV (x / 2 ^ a.toNat % 2 ^ b.toNat))/\w'=w:=by
 go_enter Tryz.func135,Tryz.ntmps135
 go_wp2_with (go_at_call 74;refine(Ol _ _ (by omega) (by omega)).mono ?_;rintro e w' ⟨rfl,rfl⟩)
 go_ret
 exact⟨Zg (get_eq x a.toNat b.toNat x0 (by omega) (by omega)),rfl⟩
end
section
set_option maxHeartbeats 400000 in
theorem QS (a b:Int) (w:World) (ha:Fit a) (hb:Fit b) :
 Calls Tryz.prog 128 #[.agg #[iV a,iV b]] w fun e w'=>e=.returned (.int .u64 (Yi a b))/\Below w.heap.size w w':=by
 go_enter Tryz.func128,Tryz.ntmps128
 go_wp2
 go_quiet ((go_at_call 55;exact Calls.quiet_of_same (put_any _ _ _ _ (by first | exact ha.1 | exact hb.1) (by first | exact ha.2 | exact hb.2) (by decide) (by decide) (by decide) (by decide))))
 go_wp2
 go_ret
 exact⟨Zg (pz _ _),below_drewN ((Below.refl _ _).alloc (Nat.le_refl _) _) _⟩
set_option maxHeartbeats 400000 in
theorem Yj (a b c d:Int) (w:World) (ha:Fit a) (hb:Fit b) (hc:Fit c) (hd:Fit d) :
 Calls Tryz.prog 36 #[.agg #[iV a,iV b,iV c,iV d]] w fun e w'=>e=.returned (.int .u64 (Zw a b c d))/\Below w.heap.size w w':=by
 go_enter Tryz.func36,Tryz.ntmps36
 go_wp2
 go_quiet ((go_at_call 55;exact Calls.quiet_of_same (put_any _ _ _ _ (by first | exact ha.1 | exact hb.1 | exact hc.1 | exact hd.1) (by first | exact ha.2 | exact hb.2 | exact hc.2 | exact hd.2) (by decide) (by decide) (by decide) (by decide))))
 go_wp2
 go_ret
 exact⟨Zg (pq _ _ _ _),below_drewN ((Below.refl _ _).alloc (Nat.le_refl _) _) _⟩
set_option maxHeartbeats 400000 in
theorem Ph (a b c d:Int) (w:World) (ha:Fit a) (hb:Fit b) (hc:Fit c) (hd:Fit d) :
 Calls Tryz.prog 151 #[.agg #[iV a,iV b,iV c,iV d]] w fun e w'=>e=.returned (.int .u64 (JY a b c d))/\Below w.heap.size w w':=by
 go_enter Tryz.func151,Tryz.ntmps151
 go_wp2
 go_quiet ((go_at_call 55;exact Calls.quiet_of_same (put_any _ _ _ _ (by first | exact ha.1 | exact hb.1 | exact hc.1 | exact hd.1) (by first | exact ha.2 | exact hb.2 | exact hc.2 | exact hd.2) (by decide) (by decide) (by decide) (by decide))))
 go_wp2
 go_ret
 exact⟨Zg (pg _ _ _ _),below_drewN ((Below.refl _ _).alloc (Nat.le_refl _) _) _⟩
set_option maxHeartbeats 400000 in
theorem OD (a b c d:Int) (o:Bool) (w:World) (ha:Fit a) (hb:Fit b) (hc:Fit c) (hd:Fit d) :
 Calls Tryz.prog 127 #[.agg #[iV a,iV b,iV c,iV d,.bool o]] w fun e w'=>e=.returned (.int .u64 (Zj a b c d o))/\Below w.heap.size w w':=by
 go_enter Tryz.func127,Tryz.ntmps127
 go_wp2
 go_quiet ((go_at_call 55;exact Calls.quiet_of_same (put_any _ _ _ _ (by first | exact ha.1 | exact hb.1 | exact hc.1 | exact hd.1) (by first | exact ha.2 | exact hb.2 | exact hc.2 | exact hd.2) (by decide) (by decide) (by decide) (by decide))))
 have e:=oZ a b c d
 have h0:=Rk a b c d
 cases o
 . go_wp2
   go_ret
   exact⟨Zg (by simp[Zj,e]),below_drewN ((Below.refl _ _).alloc (Nat.le_refl _) _) _⟩
 . go_wp2
   go_ret
   exact⟨Zg (by first | exact xh _ _ _ _ | (rw[e];exact xh _ _ _ _)),below_drewN ((Below.refl _ _).alloc (Nat.le_refl _) _) _⟩
set_option maxHeartbeats 400000 in
theorem V8 (v:Int) (f:Bool) (d:Int) (w:World) (ha:Fit v) (hd:Fit d) :
 Calls Tryz.prog 179 #[.agg #[iV v,.bool f,iV d]] w fun e w'=>e=.returned (.int .u64 (Yt v f d))/\Below w.heap.size w w':=by
 cases f
 . go_enter Tryz.func179,Tryz.ntmps179
   go_wp2_with (go_at_call 55;refine(put_any _ _ _ _ (by first | exact ha.1 | exact hd.1) (by first | exact ha.2 | exact hd.2) (by decide) (by decide) (by decide) (by decide)).mono ?_;rintro e w' ⟨rfl,rfl⟩)
   go_ret
   exact⟨Zg (by simp[Yt]),(Below.refl _ _).alloc (Nat.le_refl _) _⟩
 . go_enter Tryz.func179,Tryz.ntmps179
   go_wp2_with (go_at_call 55;refine(put_any _ _ _ _ (by first | exact ha.1 | exact hd.1) (by first | exact ha.2 | exact hd.2) (by decide) (by decide) (by decide) (by decide)).mono ?_;rintro e w' ⟨rfl,rfl⟩)
   go_ret
   exact⟨Zg (oV _ _),(Below.refl _ _).alloc (Nat.le_refl _) _⟩
set_option maxHeartbeats 400000 in
theorem UX (s c:Int) (w:World) (hs0:-9223372036854775808<=s) (hs1:s<=65535) (hc:Fit c) :
 Calls Tryz.prog 34 #[iV s,iV c] w fun e w'=>e=.returned (.int .u64 (Qz (s+1) c))/\w'=w:=by
 go_enter Tryz.func34,Tryz.ntmps34
 go_wp2_with (go_at_call 55;refine(put_any _ _ _ _ (by first | omega | exact hc.1) (by first | omega | exact hc.2) (by decide) (by decide) (by decide) (by decide)).mono ?_;rintro e w' ⟨rfl,rfl⟩)
 go_ret
 exact⟨Zg (oU _ _),rfl⟩
end
end Go.Proofs.YtibmjlefcaonnaaGreat
