import Derived.Test.YtgehjolndmgffaaGreatAbb
import Derived.Test.YtgehjolndmgffaaGreatLay
namespace Go.Proofs.YtgehjolndmgffaaGreat
open Go.RowKit
theorem zA (t s k n g p r a q:Int) (w:World) (h:Yu t s k n) (hn:1<=n) (ha:6+t+s * 2+k * 3<=a) (ha2:a<=9223372036854775807) (hq:(a - (6+t+s * 2+k * 3)) / n=q) (hk:q<k) :
 Calls Tryz.prog 189 #[.agg #[iV t,iV s,iV k,iV n,iV g,iV p,iV r],iV a] w fun e w'=>e=.returned (iV q)/\Below w.heap.size w w':=by
 have hA:=h
 obtain⟨t0,t1,s0,s1,k0,k1,n0,n1⟩:=h
 have q0:0<=q:=by rw[<- hq];exact Int.ediv_nonneg (by omega) (by omega)
 go_enter Tryz.func189,Tryz.ntmps189
 go_wp2_with (go_at_call 60;refine(WU _ _ _ _ _ _ _ 0 0 _ hA (by simp) (by omega) (by omega)).mono ?_;rintro e w1 ⟨rfl,b1⟩;have hc:=XR.new.grown b1;have e2:=hc.c2;have e3:=hc.c3)
 go_ret
 exact⟨rfl,grow (Z7 (Below.refl _ _) _) b1⟩
theorem CQ (t s k n g p r a:Int) (w:World) (h:Yu t s k n) (ha:a<6+t+s * 2+k * 3) :
 Calls Tryz.prog 189 #[.agg #[iV t,iV s,iV k,iV n,iV g,iV p,iV r],iV a] w fun e w'=>e=.returned (iV (-1))/\Below w.heap.size w w':=by
 have hA:=h
 obtain⟨t0,t1,s0,s1,k0,k1,n0,n1⟩:=h
 go_enter Tryz.func189,Tryz.ntmps189
 go_wp2_with (go_at_call 60;refine(WU _ _ _ _ _ _ _ 0 0 _ hA (by simp) (by omega) (by omega)).mono ?_;rintro e w1 ⟨rfl,b1⟩;have hc:=XR.new.grown b1;have e2:=hc.c2;have e3:=hc.c3)
 go_ret
 exact⟨rfl,grow (Z7 (Below.refl _ _) _) b1⟩
theorem FM (t s k n g p r a q:Int) (w:World) (h:Yu t s k n) (hn:1<=n) (ha:6+t+s * 2+k * 3<=a) (ha2:a<=9223372036854775807) (hq:(a - (6+t+s * 2+k * 3)) / n=q) (hk:k<=q) :
 Calls Tryz.prog 189 #[.agg #[iV t,iV s,iV k,iV n,iV g,iV p,iV r],iV a] w fun e w'=>e=.returned (iV (-1))/\Below w.heap.size w w':=by
 have hA:=h
 obtain⟨t0,t1,s0,s1,k0,k1,n0,n1⟩:=h
 go_enter Tryz.func189,Tryz.ntmps189
 go_wp2_with (go_at_call 60;refine(WU _ _ _ _ _ _ _ 0 0 _ hA (by simp) (by omega) (by omega)).mono ?_;rintro e w1 ⟨rfl,b1⟩;have hc:=XR.new.grown b1;have e2:=hc.c2;have e3:=hc.c3)
 go_ret
 exact⟨rfl,grow (Z7 (Below.refl _ _) _) b1⟩
theorem XV {a b:Bool} (h:a=b):Ending.returned (.bool a)=.returned (.bool b):=by rw[h]
end Go.Proofs.YtgehjolndmgffaaGreat
