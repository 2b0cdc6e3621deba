import Derived.Test.YtpbghmeikcphnabGreatDropMark
namespace Go.Proofs.YtpbghmeikcphnabGreat
open Go.RowKit
set_option maxRecDepth 20000
structure Y0 (nu:Int) (x:Nat) (G:Int):Prop where
 lo:65536<=nu
 hi:nu<=4294967295
 x:nu % 65536=x
 g:nu / 65536=G
theorem Y0.call {nu:Int} {x:Nat} {G:Int} (h:Y0 nu x G) (w:World) :
 Calls Tryz.prog 149 #[.int .u64 nu] w fun e w'=>e=.returned (.tuple #[.agg #[iV x,iV G],.bool true])/\Below w.heap.size w w':=by
 have e:=KA nu w h.lo h.hi
 rwa [h.x,h.g] at e
set_option maxHeartbeats 400000 in
theorem PI {w:World} {L:Loc} {s:Mm} {b o:Nat} {T:TypeId} {cs:Array Value} {t n k m:Nat} {g p r:Int} {a:DV} (h:Z8 w L s) (hi:ZK w b o T cs a) (who:Int) (hG:Good t n k m g p r) (hlen:ZH t n k m<=s.n) {x:Nat} {G:Int} (hh:Y0 a.nu x G) (hx:x<n) (hnx:a.nx=0) (X:Mm->DV->Prop) (d:Bool) (hX:∀ s' a',X s' a'->(a'.nx == 7)=d)
 (hc:∀ w1:World,Z8 w1 L s->ZK w1 b o T cs a->Calls Tryz.prog 152 #[pP b o,eV t n k m g p r L.p who,.agg #[iV x,iV G]] w1 fun e w'=>e=.returned (.tuple #[])/\XJ L b o T cs w1 w' X) :
 Calls Tryz.prog 148 #[pP b o,eV t n k m g p r L.p who] w fun e w'=>e=.returned (.bool d)/\XJ L b o T cs w w' X:=by
 have hw:=hh.call
 have ds:=fun(w':World) (m':Z8 w' L s)=>Y8 (x:=x) m' hG hlen who
 rw[decide_eq_true (by omega)] at ds
 have i0:=hi.grown (ZY _ (.cells #[iV t,iV n,iV k,iV m,iV g,iV p,iV r,pP L.p 0,iV who] 26))
 have k0:=i0.Zz
 have k1:=i0.Ul
 rw[hnx] at k0
 clear hh
 go_enter Tryz.func148,Tryz.ntmps148
 go_wp2_with (first
  | (go_at_call 149;refine(hw _).mono ?_;rintro e w1 ⟨rfl,b1⟩;have i1:=(i0.grown b1).grown (ZY _ (.cells #[iV x,iV G] 173));have v1:=(ZR.new.grown b1).grown (ZY _ (.cells #[iV x,iV G] 173));have m1:=((h.alloc _).below b1).alloc (.cells #[iV x,iV G] 173);have o1:Only (L.and b) w (w1.alloc (.cells #[iV x,iV G] 173)):=(((Only.refl _ _).alloc _).trans (Only.ZZ b1)).alloc (.cells #[iV x,iV G] 173);have x1:=At.new w1 173 [iV (x:Nat),iV G];have u0:=x1.at0 0 rfl;obtain⟨y0,y1,y2,y3,y4,y5,y6,y7,y8⟩:=id v1)
  | (go_at_call 150;refine(ds _ m1).mono ?_;rintro e w2 ⟨rfl,b2⟩;have i2:=i1.grown b2;have v2:=v1.grown b2;have m2:=m1.below b2;have x2:=x1.grown b2;have o2:=o1.trans (Only.ZZ b2);have q0:=x2.at0 0 rfl;have q1:=x2.at0 1 rfl;have k2:=i2.Zz;rw[hnx] at k2;obtain⟨z0,z1,z2,z3,z4,z5,z6,z7,z8⟩:=id v2;have kf:=i2.fz)
  | (go_at_call 152;refine(hc _ m2 i2).mono ?_;rintro e w3 ⟨rfl,s3,Ui,a3,m3,o3,i3,q3,p3⟩;have k3:=i3.Zz))
 go_ret
 exact⟨Yw (hX _ _ p3),s3,Ui,a3,m3,o2.trans o3,i3,q3,p3⟩
set_option maxHeartbeats 400000 in
theorem Sl {w:World} {L:Loc} {s:Mm} {b o:Nat} {T:TypeId} {cs:Array Value} {t n k m:Nat} {g p r:Int} {a:DV} (h:Z8 w L s) (hi:ZK w b o T cs a) (who:Int) (hG:Good t n k m g p r) (hlen:ZH t n k m<=s.n) {x:Nat} {G:Int} (hh:Y0 a.nu x G) (hx:x<n) (hnx:a.nx=1) (X:Mm->DV->Prop) (d:Bool) (hX:∀ s' a',X s' a'->(a'.nx == 7)=d)
 (hc:∀ w1:World,Z8 w1 L s->ZK w1 b o T cs a->Calls Tryz.prog 153 #[pP b o,eV t n k m g p r L.p who,.agg #[iV x,iV G]] w1 fun e w'=>e=.returned (.tuple #[])/\XJ L b o T cs w1 w' X) :
 Calls Tryz.prog 148 #[pP b o,eV t n k m g p r L.p who] w fun e w'=>e=.returned (.bool d)/\XJ L b o T cs w w' X:=by
 have hw:=hh.call
 have ds:=fun(w':World) (m':Z8 w' L s)=>Y8 (x:=x) m' hG hlen who
 rw[decide_eq_true (by omega)] at ds
 have i0:=hi.grown (ZY _ (.cells #[iV t,iV n,iV k,iV m,iV g,iV p,iV r,pP L.p 0,iV who] 26))
 have k0:=i0.Zz
 have k1:=i0.Ul
 rw[hnx] at k0
 clear hh
 go_enter Tryz.func148,Tryz.ntmps148
 go_wp2_with (first
  | (go_at_call 149;refine(hw _).mono ?_;rintro e w1 ⟨rfl,b1⟩;have i1:=(i0.grown b1).grown (ZY _ (.cells #[iV x,iV G] 173));have v1:=(ZR.new.grown b1).grown (ZY _ (.cells #[iV x,iV G] 173));have m1:=((h.alloc _).below b1).alloc (.cells #[iV x,iV G] 173);have o1:Only (L.and b) w (w1.alloc (.cells #[iV x,iV G] 173)):=(((Only.refl _ _).alloc _).trans (Only.ZZ b1)).alloc (.cells #[iV x,iV G] 173);have x1:=At.new w1 173 [iV (x:Nat),iV G];have u0:=x1.at0 0 rfl;obtain⟨y0,y1,y2,y3,y4,y5,y6,y7,y8⟩:=id v1)
  | (go_at_call 150;refine(ds _ m1).mono ?_;rintro e w2 ⟨rfl,b2⟩;have i2:=i1.grown b2;have v2:=v1.grown b2;have m2:=m1.below b2;have x2:=x1.grown b2;have o2:=o1.trans (Only.ZZ b2);have q0:=x2.at0 0 rfl;have q1:=x2.at0 1 rfl;have k2:=i2.Zz;rw[hnx] at k2;obtain⟨z0,z1,z2,z3,z4,z5,z6,z7,z8⟩:=id v2;have kf:=i2.fz)
  | (go_at_call 153;refine(hc _ m2 i2).mono ?_;rintro e w3 ⟨rfl,s3,Ui,a3,m3,o3,i3,q3,p3⟩;have k3:=i3.Zz))
 go_ret
 exact⟨Yw (hX _ _ p3),s3,Ui,a3,m3,o2.trans o3,i3,q3,p3⟩
set_option maxHeartbeats 400000 in
theorem QH {w:World} {L:Loc} {s:Mm} {b o:Nat} {T:TypeId} {cs:Array Value} {t n k m:Nat} {g p r:Int} {a:DV} (h:Z8 w L s) (hi:ZK w b o T cs a) (who:Int) (hG:Good t n k m g p r) (hlen:ZH t n k m<=s.n) {x:Nat} {G:Int} (hh:Y0 a.nu x G) (hx:x<n) (hnx:a.nx=2) (X:Mm->DV->Prop) (d:Bool) (hX:∀ s' a',X s' a'->(a'.nx == 7)=d)
 (hc:∀ w1:World,Z8 w1 L s->ZK w1 b o T cs a->Calls Tryz.prog 154 #[pP b o,eV t n k m g p r L.p who,.agg #[iV x,iV G]] w1 fun e w'=>e=.returned (.tuple #[])/\XJ L b o T cs w1 w' X) :
 Calls Tryz.prog 148 #[pP b o,eV t n k m g p r L.p who] w fun e w'=>e=.returned (.bool d)/\XJ L b o T cs w w' X:=by
 have hw:=hh.call
 have ds:=fun(w':World) (m':Z8 w' L s)=>Y8 (x:=x) m' hG hlen who
 rw[decide_eq_true (by omega)] at ds
 have i0:=hi.grown (ZY _ (.cells #[iV t,iV n,iV k,iV m,iV g,iV p,iV r,pP L.p 0,iV who] 26))
 have k0:=i0.Zz
 have k1:=i0.Ul
 rw[hnx] at k0
 clear hh
 go_enter Tryz.func148,Tryz.ntmps148
 go_wp2_with (first
  | (go_at_call 149;refine(hw _).mono ?_;rintro e w1 ⟨rfl,b1⟩;have i1:=(i0.grown b1).grown (ZY _ (.cells #[iV x,iV G] 173));have v1:=(ZR.new.grown b1).grown (ZY _ (.cells #[iV x,iV G] 173));have m1:=((h.alloc _).below b1).alloc (.cells #[iV x,iV G] 173);have o1:Only (L.and b) w (w1.alloc (.cells #[iV x,iV G] 173)):=(((Only.refl _ _).alloc _).trans (Only.ZZ b1)).alloc (.cells #[iV x,iV G] 173);have x1:=At.new w1 173 [iV (x:Nat),iV G];have u0:=x1.at0 0 rfl;obtain⟨y0,y1,y2,y3,y4,y5,y6,y7,y8⟩:=id v1)
  | (go_at_call 150;refine(ds _ m1).mono ?_;rintro e w2 ⟨rfl,b2⟩;have i2:=i1.grown b2;have v2:=v1.grown b2;have m2:=m1.below b2;have x2:=x1.grown b2;have o2:=o1.trans (Only.ZZ b2);have q0:=x2.at0 0 rfl;have q1:=x2.at0 1 rfl;have k2:=i2.Zz;rw[hnx] at k2;obtain⟨z0,z1,z2,z3,z4,z5,z6,z7,z8⟩:=id v2;have kf:=i2.fz)
  | (go_at_call 154;refine(hc _ m2 i2).mono ?_;rintro e w3 ⟨rfl,s3,Ui,a3,m3,o3,i3,q3,p3⟩;have k3:=i3.Zz))
 go_ret
 exact⟨Yw (hX _ _ p3),s3,Ui,a3,m3,o2.trans o3,i3,q3,p3⟩
set_option maxHeartbeats 400000 in
theorem PH {w:World} {L:Loc} {s:Mm} {b o:Nat} {T:TypeId} {cs:Array Value} {t n k m:Nat} {g p r:Int} {a:DV} (h:Z8 w L s) (hi:ZK w b o T cs a) (who:Int) (hG:Good t n k m g p r) (hlen:ZH t n k m<=s.n) {x:Nat} {G:Int} (hh:Y0 a.nu x G) (hx:x<n) (hnx:a.nx=4) (X:Mm->DV->Prop) (d:Bool) (hX:∀ s' a',X s' a'->(a'.nx == 7)=d)
 (hc:∀ w1:World,Z8 w1 L s->ZK w1 b o T cs a->Calls Tryz.prog 156 #[pP b o,eV t n k m g p r L.p who,.agg #[iV x,iV G]] w1 fun e w'=>e=.returned (.tuple #[])/\XJ L b o T cs w1 w' X) :
 Calls Tryz.prog 148 #[pP b o,eV t n k m g p r L.p who] w fun e w'=>e=.returned (.bool d)/\XJ L b o T cs w w' X:=by
 have hw:=hh.call
 have ds:=fun(w':World) (m':Z8 w' L s)=>Y8 (x:=x) m' hG hlen who
 rw[decide_eq_true (by omega)] at ds
 have i0:=hi.grown (ZY _ (.cells #[iV t,iV n,iV k,iV m,iV g,iV p,iV r,pP L.p 0,iV who] 26))
 have k0:=i0.Zz
 have k1:=i0.Ul
 rw[hnx] at k0
 clear hh
 go_enter Tryz.func148,Tryz.ntmps148
 go_wp2_with (first
  | (go_at_call 149;refine(hw _).mono ?_;rintro e w1 ⟨rfl,b1⟩;have i1:=(i0.grown b1).grown (ZY _ (.cells #[iV x,iV G] 173));have v1:=(ZR.new.grown b1).grown (ZY _ (.cells #[iV x,iV G] 173));have m1:=((h.alloc _).below b1).alloc (.cells #[iV x,iV G] 173);have o1:Only (L.and b) w (w1.alloc (.cells #[iV x,iV G] 173)):=(((Only.refl _ _).alloc _).trans (Only.ZZ b1)).alloc (.cells #[iV x,iV G] 173);have x1:=At.new w1 173 [iV (x:Nat),iV G];have u0:=x1.at0 0 rfl;obtain⟨y0,y1,y2,y3,y4,y5,y6,y7,y8⟩:=id v1)
  | (go_at_call 150;refine(ds _ m1).mono ?_;rintro e w2 ⟨rfl,b2⟩;have i2:=i1.grown b2;have v2:=v1.grown b2;have m2:=m1.below b2;have x2:=x1.grown b2;have o2:=o1.trans (Only.ZZ b2);have q0:=x2.at0 0 rfl;have q1:=x2.at0 1 rfl;have k2:=i2.Zz;rw[hnx] at k2;obtain⟨z0,z1,z2,z3,z4,z5,z6,z7,z8⟩:=id v2;have kf:=i2.fz)
  | (go_at_call 156;refine(hc _ m2 i2).mono ?_;rintro e w3 ⟨rfl,s3,Ui,a3,m3,o3,i3,q3,p3⟩;have k3:=i3.Zz))
 go_ret
 exact⟨Yw (hX _ _ p3),s3,Ui,a3,m3,o2.trans o3,i3,q3,p3⟩
set_option maxHeartbeats 400000 in
theorem Ry {w:World} {L:Loc} {s:Mm} {b o:Nat} {T:TypeId} {cs:Array Value} {t n k m:Nat} {g p r:Int} {a:DV} (h:Z8 w L s) (hi:ZK w b o T cs a) (who:Int) (hG:Good t n k m g p r) (hlen:ZH t n k m<=s.n) {x:Nat} {G:Int} (hh:Y0 a.nu x G) (hx:x<n) (hnx:a.nx=5) (X:Mm->DV->Prop) (d:Bool) (hX:∀ s' a',X s' a'->(a'.nx == 7)=d)
 (hc:∀ w1:World,Z8 w1 L s->ZK w1 b o T cs a->Calls Tryz.prog 157 #[pP b o,eV t n k m g p r L.p who,.agg #[iV x,iV G]] w1 fun e w'=>e=.returned (.tuple #[])/\XJ L b o T cs w1 w' X) :
 Calls Tryz.prog 148 #[pP b o,eV t n k m g p r L.p who] w fun e w'=>e=.returned (.bool d)/\XJ L b o T cs w w' X:=by
 have hw:=hh.call
 have ds:=fun(w':World) (m':Z8 w' L s)=>Y8 (x:=x) m' hG hlen who
 rw[decide_eq_true (by omega)] at ds
 have i0:=hi.grown (ZY _ (.cells #[iV t,iV n,iV k,iV m,iV g,iV p,iV r,pP L.p 0,iV who] 26))
 have k0:=i0.Zz
 have k1:=i0.Ul
 rw[hnx] at k0
 clear hh
 go_enter Tryz.func148,Tryz.ntmps148
 go_wp2_with (first
  | (go_at_call 149;refine(hw _).mono ?_;rintro e w1 ⟨rfl,b1⟩;have i1:=(i0.grown b1).grown (ZY _ (.cells #[iV x,iV G] 173));have v1:=(ZR.new.grown b1).grown (ZY _ (.cells #[iV x,iV G] 173));have m1:=((h.alloc _).below b1).alloc (.cells #[iV x,iV G] 173);have o1:Only (L.and b) w (w1.alloc (.cells #[iV x,iV G] 173)):=(((Only.refl _ _).alloc _).trans (Only.ZZ b1)).alloc (.cells #[iV x,iV G] 173);have x1:=At.new w1 173 [iV (x:Nat),iV G];have u0:=x1.at0 0 rfl;obtain⟨y0,y1,y2,y3,y4,y5,y6,y7,y8⟩:=id v1)
  | (go_at_call 150;refine(ds _ m1).mono ?_;rintro e w2 ⟨rfl,b2⟩;have i2:=i1.grown b2;have v2:=v1.grown b2;have m2:=m1.below b2;have x2:=x1.grown b2;have o2:=o1.trans (Only.ZZ b2);have q0:=x2.at0 0 rfl;have q1:=x2.at0 1 rfl;have k2:=i2.Zz;rw[hnx] at k2;obtain⟨z0,z1,z2,z3,z4,z5,z6,z7,z8⟩:=id v2;have kf:=i2.fz)
  | (go_at_call 157;refine(hc _ m2 i2).mono ?_;rintro e w3 ⟨rfl,s3,Ui,a3,m3,o3,i3,q3,p3⟩;have k3:=i3.Zz))
 go_ret
 exact⟨Yw (hX _ _ p3),s3,Ui,a3,m3,o2.trans o3,i3,q3,p3⟩
theorem Hz {w:World} {L:Loc} {s:Mm} {b o:Nat} {T:TypeId} {cs:Array Value} {t n k m:Nat} {g p r:Int} {a:DV} (h:Z8 w L s) (hi:ZK w b o T cs a) (who:Int) (hG:Good t n k m g p r) (hlen:ZH t n k m<=s.n) {x:Nat} {G:Int} (hh:Y0 a.nu x G) (hb:¬ L.has b) (hx:n<=x) (hnx:a.nx=0) {σ:Nat} (hσ:s.steps=σ) :
 Calls Tryz.prog 148 #[pP b o,eV t n k m g p r L.p who] w fun e w'=>e=.returned (.bool true)/\XJ L b o T cs w w' (fun s' a'=>s'=s/\a'={ a with nx:=7,E:=3,H:=0,V:=0,St:=σ }):=by
 have xH:a.nx<5:=by omega
 have hw:=hh.call
 have ds:=fun(w':World) (m':Z8 w' L s)=>Y8 (x:=x) m' hG hlen who
 rw[decide_eq_false (by omega)] at ds
 have i0:=hi.grown (ZY _ (.cells #[iV t,iV n,iV k,iV m,iV g,iV p,iV r,pP L.p 0,iV who] 26))
 have k0:=i0.Zz
 have k1:=i0.Ul
 rw[hnx] at k0
 clear hh
 go_enter Tryz.func148,Tryz.ntmps148
 go_wp2_with (first
  | (go_at_call 149;refine(hw _).mono ?_;rintro e w1 ⟨rfl,b1⟩;have i1:=(i0.grown b1).grown (ZY _ (.cells #[iV x,iV G] 173));have v1:=(ZR.new.grown b1).grown (ZY _ (.cells #[iV x,iV G] 173));have m1:=((h.alloc _).below b1).alloc (.cells #[iV x,iV G] 173);have o1:Only (L.and b) w (w1.alloc (.cells #[iV x,iV G] 173)):=(((Only.refl _ _).alloc _).trans (Only.ZZ b1)).alloc (.cells #[iV x,iV G] 173);have x1:=At.new w1 173 [iV (x:Nat),iV G];have u0:=x1.at0 0 rfl;obtain⟨y0,y1,y2,y3,y4,y5,y6,y7,y8⟩:=id v1)
  | (go_at_call 150;refine(ds _ m1).mono ?_;rintro e w2 ⟨rfl,b2⟩;have i2:=i1.grown b2;have v2:=v1.grown b2;have m2:=m1.below b2;have x2:=x1.grown b2;have o2:=o1.trans (Only.ZZ b2);have q0:=x2.at0 0 rfl;have q1:=x2.at0 1 rfl;obtain⟨z0,z1,z2,z3,z4,z5,z6,z7,z8⟩:=id v2;have kf:=i2.fz)
  | (go_at_call 151;refine(Q5 m2 hb i2 who xH σ hσ).mono ?_;rintro e w3 ⟨rfl,s3,Ui,a3,m3,o3,i3,q3,rfl,rfl⟩))
 go_ret
 exact⟨rfl,_,Ui,_,m3,o2.trans o3,i3,q3,rfl,rfl⟩
theorem KO {w:World} {L:Loc} {s:Mm} {b o:Nat} {T:TypeId} {cs:Array Value} {t n k m:Nat} {g p r:Int} {a:DV} (h:Z8 w L s) (hb:¬ L.has b) (hi:ZK w b o T cs a) (who:Int) (h0:0<=a.nu) (h1:a.nu<=18446744073709551615) (hn:a.nu<65536\/4294967296<=a.nu) (hnx:a.nx=0) {σ:Nat} (hσ:s.steps=σ) :
 Calls Tryz.prog 148 #[pP b o,eV t n k m g p r L.p who] w fun e w'=>e=.returned (.bool true)/\XJ L b o T cs w w' (fun s' a'=>s'=s/\a'={ a with nx:=7,E:=3,H:=0,V:=0,St:=σ }):=by
 have xH:a.nx<5:=by omega
 have hw:=fun w=>PO a.nu w h0 h1 hn
 have i0:=hi.grown (ZY _ (.cells #[iV t,iV n,iV k,iV m,iV g,iV p,iV r,pP L.p 0,iV who] 26))
 have k0:=i0.Zz
 have k1:=i0.Ul
 rw[hnx] at k0
 clear hn
 go_enter Tryz.func148,Tryz.ntmps148
 go_wp2_with (first
  | (go_at_call 149;refine(hw _).mono ?_;rintro e w1 ⟨rfl,b1⟩;have i1:=(i0.grown b1).grown (ZY _ (.cells #[iV 0,iV 0] 173));have v1:=(ZR.new.grown b1).grown (ZY _ (.cells #[iV 0,iV 0] 173));have m1:=((h.alloc _).below b1).alloc (.cells #[iV 0,iV 0] 173);have o1:Only (L.and b) w (w1.alloc (.cells #[iV 0,iV 0] 173)):=(((Only.refl _ _).alloc _).trans (Only.ZZ b1)).alloc (.cells #[iV 0,iV 0] 173);have x1:=At.new w1 173 [iV 0,iV 0];have u0:=x1.at0 0 rfl;obtain⟨y0,y1,y2,y3,y4,y5,y6,y7,y8⟩:=id v1)
  | (go_at_call 151;refine(Q5 m1 hb i1 who xH σ hσ).mono ?_;rintro e w3 ⟨rfl,s3,Ui,a3,m3,o3,i3,q3,rfl,rfl⟩))
 go_ret
 exact⟨rfl,_,Ui,_,m3,o1.trans o3,i3,q3,rfl,rfl⟩
set_option maxHeartbeats 400000 in
theorem P9 {w:World} {L:Loc} {s:Mm} {b o:Nat} {T:TypeId} {cs:Array Value} {t n k m:Nat} {g p r:Int} {a:DV} (h:Z8 w L s) (hi:ZK w b o T cs a) (who:Int) (hG:Good t n k m g p r) (hlen:ZH t n k m<=s.n) {x:Nat} {G:Int} (hh:Y0 a.nu x G) (hx:x<n) (hnx:a.nx=3) (X:Mm->List Value->Prop) (hX:∀ s' l',X s' l'->l'.length=8)
 (hc:∀ w1:World,Z8 w1 L s->At w1 b (o+6) T cs a.hl->Calls Tryz.prog 155 #[pP b (o+6),eV t n k m g p r L.p who] w1 fun e w'=>e=.returned (.bool false)/\VY L b (o+6) T cs w1 w' X) :
 Calls Tryz.prog 148 #[pP b o,eV t n k m g p r L.p who] w fun e w'=>e=.returned (.bool false)/\XJ L b o T cs w w' (fun s' a'=>∃ l',X s' l'/\a'={ a with hl:=l' }):=by
 have hw:=hh.call
 have ds:=fun(w':World) (m':Z8 w' L s)=>Y8 (x:=x) m' hG hlen who
 rw[decide_eq_true (by omega)] at ds
 have i0:=hi.grown (ZY _ (.cells #[iV t,iV n,iV k,iV m,iV g,iV p,iV r,pP L.p 0,iV who] 26))
 have k0:=i0.Zz
 have k1:=i0.Ul
 rw[hnx] at k0
 clear hh
 obtain⟨hbv,hbb⟩:=nb h hi.lt
 have Zm:¬ L.has (w.heap.size+1):=fun hh=>by have:=h.lt _ hh;omega
 have Zj:¬ w.heap.size+1=b:=fun hh=>by have:=hi.lt;omega
 go_enter Tryz.func148,Tryz.ntmps148
 go_wp2_with (first
  | (go_at_call 149;refine(hw _).mono ?_;rintro e w1 ⟨rfl,b1⟩;have i1:=(i0.grown b1).grown (ZY _ (.cells #[iV x,iV G] 173));have v1:=(ZR.new.grown b1).grown (ZY _ (.cells #[iV x,iV G] 173));have m1:=((h.alloc _).below b1).alloc (.cells #[iV x,iV G] 173);have o1:Only (L.and b) w (w1.alloc (.cells #[iV x,iV G] 173)):=(((Only.refl _ _).alloc _).trans (Only.ZZ b1)).alloc (.cells #[iV x,iV G] 173);have x1:=At.new w1 173 [iV (x:Nat),iV G];have u0:=x1.at0 0 rfl;obtain⟨y0,y1,y2,y3,y4,y5,y6,y7,y8⟩:=id v1)
  | (go_at_call 150;refine(ds _ m1).mono ?_;rintro e w2 ⟨rfl,b2⟩;have i2:=i1.grown b2;have v2:=v1.grown b2;have m2:=m1.below b2;have x2:=x1.grown b2;have o2:=o1.trans (Only.ZZ b2);have q0:=x2.at0 0 rfl;have q1:=x2.at0 1 rfl;have k2:=i2.Zz;rw[hnx] at k2;obtain⟨z0,z1,z2,z3,z4,z5,z6,z7,z8⟩:=id v2;have kf:=i2.fz))
 refine ZW (fun W=>Z8 W L s/\ZK W b o T cs a/\ZR W w.heap.size t n k m g p r L.p who/\Only (L.and b) w W) ⟨m2,i2,v2,o2⟩ ?_
 clear b1 b2 i0 i1 i2 v1 v2 m1 m2 x1 x2 o1 o2 u0 q0 q1 k0 k1 k2 kf y0 z0 y1 z1 y2 z2 y3 z3 y4 z4 y5 z5 y6 z6 y7 z7 y8 z8
 rintro W ⟨m1,i1,v1,o1⟩
 apply Xo 4;. kernel_rfl
 iterate 3 (apply rV;. intros;apply ol;go_simp;exact gl)
 apply X8;. intro w' hg _;apply ol;have y:=(v1.dg hg).yy;go_simp;exact gl
 try simp only[pu,s0,s1]
 intro w5 hg _
 have m5:=m1.drew.below hg
 have i5:=i1.drew.grown hg
 have o5:=o1.og hg
 clear hg m1 i1 v1 o1
 go_wp2_with (go_at_call 155;refine(hc _ m5 i5.hlAt).mono ?_;rintro e w6 ⟨rfl,s6,VI,l6,m6,o6,i6,q6,p6⟩;have i7:=i5.Q4 i6 (hX _ _ p6) q6;have o7:=o5.trans o6;have q7:Same o 21 cs VI:=q6.wide (by omega) (by omega);have k0:=i7.Zz;rw[show ({ a with hl:=l6 }:DV).nx=3 from hnx] at k0;have kf:=i7.fz)
 go_ret
 exact⟨rfl,s6,VI,_,m6,o7,i7,q7,l6,p6,rfl⟩
set_option maxHeartbeats 400000 in
theorem Rk {w:World} {L:Loc} {s:Mm} {b o:Nat} {T:TypeId} {cs:Array Value} {t n k m:Nat} {g p r:Int} {a:DV} (h:Z8 w L s) (hi:ZK w b o T cs a) (who:Int) (hG:Good t n k m g p r) (hlen:ZH t n k m<=s.n) {x:Nat} {G:Int} (hh:Y0 a.nu x G) (hb:¬ L.has b) (hx:x<n) (hnx:a.nx=3) (X:Mm->List Value->Prop) (hX:∀ s' l',X s' l'->l'.length=8)
 (hc:∀ w1:World,Z8 w1 L s->At w1 b (o+6) T cs a.hl->Calls Tryz.prog 155 #[pP b (o+6),eV t n k m g p r L.p who] w1 fun e w'=>e=.returned (.bool true)/\VY L b (o+6) T cs w1 w' X) :
 Calls Tryz.prog 148 #[pP b o,eV t n k m g p r L.p who] w fun e w'=>e=.returned (.bool false)/\XJ L b o T cs w w' (fun s' a'=>∃ l',X s' l'/\a'={ a with hl:=l',nx:=0 }):=by
 have hw:=hh.call
 have ds:=fun(w':World) (m':Z8 w' L s)=>Y8 (x:=x) m' hG hlen who
 rw[decide_eq_true (by omega)] at ds
 have i0:=hi.grown (ZY _ (.cells #[iV t,iV n,iV k,iV m,iV g,iV p,iV r,pP L.p 0,iV who] 26))
 have k0:=i0.Zz
 have k1:=i0.Ul
 rw[hnx] at k0
 clear hh
 obtain⟨hbv,hbb⟩:=nb h hi.lt
 have Zm:¬ L.has (w.heap.size+1):=fun hh=>by have:=h.lt _ hh;omega
 have Zj:¬ w.heap.size+1=b:=fun hh=>by have:=hi.lt;omega
 go_enter Tryz.func148,Tryz.ntmps148
 go_wp2_with (first
  | (go_at_call 149;refine(hw _).mono ?_;rintro e w1 ⟨rfl,b1⟩;have i1:=(i0.grown b1).grown (ZY _ (.cells #[iV x,iV G] 173));have v1:=(ZR.new.grown b1).grown (ZY _ (.cells #[iV x,iV G] 173));have m1:=((h.alloc _).below b1).alloc (.cells #[iV x,iV G] 173);have o1:Only (L.and b) w (w1.alloc (.cells #[iV x,iV G] 173)):=(((Only.refl _ _).alloc _).trans (Only.ZZ b1)).alloc (.cells #[iV x,iV G] 173);have x1:=At.new w1 173 [iV (x:Nat),iV G];have u0:=x1.at0 0 rfl;obtain⟨y0,y1,y2,y3,y4,y5,y6,y7,y8⟩:=id v1)
  | (go_at_call 150;refine(ds _ m1).mono ?_;rintro e w2 ⟨rfl,b2⟩;have i2:=i1.grown b2;have v2:=v1.grown b2;have m2:=m1.below b2;have x2:=x1.grown b2;have o2:=o1.trans (Only.ZZ b2);have q0:=x2.at0 0 rfl;have q1:=x2.at0 1 rfl;have k2:=i2.Zz;rw[hnx] at k2;obtain⟨z0,z1,z2,z3,z4,z5,z6,z7,z8⟩:=id v2;have kf:=i2.fz))
 refine ZW (fun W=>Z8 W L s/\ZK W b o T cs a/\ZR W w.heap.size t n k m g p r L.p who/\Only (L.and b) w W) ⟨m2,i2,v2,o2⟩ ?_
 clear b1 b2 i0 i1 i2 v1 v2 m1 m2 x1 x2 o1 o2 u0 q0 q1 k0 k1 k2 kf y0 z0 y1 z1 y2 z2 y3 z3 y4 z4 y5 z5 y6 z6 y7 z7 y8 z8
 rintro W ⟨m1,i1,v1,o1⟩
 apply Xo 4;. kernel_rfl
 iterate 3 (apply rV;. intros;apply ol;go_simp;exact gl)
 apply X8;. intro w' hg _;apply ol;have y:=(v1.dg hg).yy;go_simp;exact gl
 try simp only[pu,s0,s1]
 intro w5 hg _
 have m5:=m1.drew.below hg
 have i5:=i1.drew.grown hg
 have o5:=o1.og hg
 clear hg m1 i1 v1 o1
 go_wp2_with (go_at_call 155;refine(hc _ m5 i5.hlAt).mono ?_;rintro e w6 ⟨rfl,s6,VI,l6,m6,o6,i6,q6,p6⟩;have i7:=i5.Q4 i6 (hX _ _ p6) q6;have o7:=o5.trans o6;have q7:Same o 21 cs VI:=q6.wide (by omega) (by omega);have k0:=i7.Zz;rw[show ({ a with hl:=l6 }:DV).nx=3 from hnx] at k0;have kf:=i7.fz)
 go_ret
 exact⟨rfl,s6,_,_,m6.ZX hb _ _,o7.set _ _,i7.Zh 0,q7.set (by omega) _,l6,p6,rfl⟩
set_option maxHeartbeats 400000 in
theorem P8 {w:World} {L:Loc} {s:Mm} {b o:Nat} {T:TypeId} {cs:Array Value} {t n k m:Nat} {g p r:Int} {a:DV} (h:Z8 w L s) (hi:ZK w b o T cs a) (who:Int) (hG:Good t n k m g p r) (hlen:ZH t n k m<=s.n) {x:Nat} {G:Int} (hh:Y0 a.nu x G) (hx:x<n) (hnx:a.nx=6) {σ c c':Nat} {lk lk':Nat->Nat} {F F':List Nat} {γ γ':Gv}
 (hc:∀ w1:World,Z8 w1 L s->At w1 b (o+14) T cs a.gl->Calls Tryz.prog 123 #[pP b (o+14),eV t n k m g p r L.p who] w1 fun e w'=>e=.returned (.bool false)/\∃ s' cs',Aw w1 L s b (o+14) T cs t n σ c lk F x who γ w' s' cs' c' lk' F' γ') :
 Calls Tryz.prog 148 #[pP b o,eV t n k m g p r L.p who] w fun e w'=>e=.returned (.bool false)/\XJ L b o T cs w w' (fun s' a'=>Yo t n s' (σ+1) c' lk' F'/\(∃ v,s'=(s.by who).step (γ.at t x) v)/\γ'.good n c' lk' F' x/\∃ l',γ'.cells x l'/\a'={ a with gl:=l' }):=by
 have hw:=hh.call
 have ds:=fun(w':World) (m':Z8 w' L s)=>Y8 (x:=x) m' hG hlen who
 rw[decide_eq_true (by omega)] at ds
 have i0:=hi.grown (ZY _ (.cells #[iV t,iV n,iV k,iV m,iV g,iV p,iV r,pP L.p 0,iV who] 26))
 have k0:=i0.Zz
 have k1:=i0.Ul
 rw[hnx] at k0
 clear hh
 obtain⟨hbv,hbb⟩:=nb h hi.lt
 have Zm:¬ L.has (w.heap.size+1):=fun hh=>by have:=h.lt _ hh;omega
 have Zj:¬ w.heap.size+1=b:=fun hh=>by have:=hi.lt;omega
 go_enter Tryz.func148,Tryz.ntmps148
 go_wp2_with (first
  | (go_at_call 149;refine(hw _).mono ?_;rintro e w1 ⟨rfl,b1⟩;have i1:=(i0.grown b1).grown (ZY _ (.cells #[iV x,iV G] 173));have v1:=(ZR.new.grown b1).grown (ZY _ (.cells #[iV x,iV G] 173));have m1:=((h.alloc _).below b1).alloc (.cells #[iV x,iV G] 173);have o1:Only (L.and b) w (w1.alloc (.cells #[iV x,iV G] 173)):=(((Only.refl _ _).alloc _).trans (Only.ZZ b1)).alloc (.cells #[iV x,iV G] 173);have x1:=At.new w1 173 [iV (x:Nat),iV G];have u0:=x1.at0 0 rfl;obtain⟨y0,y1,y2,y3,y4,y5,y6,y7,y8⟩:=id v1)
  | (go_at_call 150;refine(ds _ m1).mono ?_;rintro e w2 ⟨rfl,b2⟩;have i2:=i1.grown b2;have v2:=v1.grown b2;have m2:=m1.below b2;have x2:=x1.grown b2;have o2:=o1.trans (Only.ZZ b2);have q0:=x2.at0 0 rfl;have q1:=x2.at0 1 rfl;have k2:=i2.Zz;rw[hnx] at k2;obtain⟨z0,z1,z2,z3,z4,z5,z6,z7,z8⟩:=id v2;have kf:=i2.fz))
 refine ZW (fun W=>Z8 W L s/\ZK W b o T cs a/\ZR W w.heap.size t n k m g p r L.p who/\Only (L.and b) w W) ⟨m2,i2,v2,o2⟩ ?_
 clear b1 b2 i0 i1 i2 v1 v2 m1 m2 x1 x2 o1 o2 u0 q0 q1 k0 k1 k2 kf y0 z0 y1 z1 y2 z2 y3 z3 y4 z4 y5 z5 y6 z6 y7 z7 y8 z8
 rintro W ⟨m1,i1,v1,o1⟩
 apply Xo 4;. kernel_rfl
 iterate 3 (apply rV;. intros;apply ol;go_simp;exact gl)
 apply X8;. intro w' hg _;apply ol;have y:=(v1.dg hg).yy;go_simp;exact gl
 try simp only[pu,s0,s1]
 intro w5 hg _
 have m5:=m1.drew.below hg
 have i5:=i1.drew.grown hg
 have o5:=o1.og hg
 clear hg m1 i1 v1 o1
 go_wp2_with (go_at_call 123;refine(hc _ m5 i5.tK).mono ?_;rintro e w6 ⟨rfl,s6,VI,P⟩;obtain⟨l6,i6,q6⟩:=P.a;have i7:=i5.IJ i6 (Gv.Zl q6) P.same;have o7:=o5.trans P.only;have q7:Same o 21 cs VI:=P.same.wide (by omega) (by omega);have k0:=i7.Zz;rw[show ({ a with gl:=l6 }:DV).nx=6 from hnx] at k0;have kf:=i7.fz)
 go_ret
 exact⟨rfl,s6,VI,_,P.m,o7,i7,q7,P.p,P.st,P.good,l6,q6,rfl⟩
set_option maxHeartbeats 400000 in
theorem Rj {w:World} {L:Loc} {s:Mm} {b o:Nat} {T:TypeId} {cs:Array Value} {t n k m:Nat} {g p r:Int} {a:DV} (h:Z8 w L s) (hi:ZK w b o T cs a) (who:Int) (hG:Good t n k m g p r) (hlen:ZH t n k m<=s.n) {x:Nat} {G:Int} (hh:Y0 a.nu x G) (hb:¬ L.has b) (hx:x<n) (hnx:a.nx=6) {σ c c':Nat} {lk lk':Nat->Nat} {F F':List Nat} {γ γ':Gv}
 (hc:∀ w1:World,Z8 w1 L s->At w1 b (o+14) T cs a.gl->Calls Tryz.prog 123 #[pP b (o+14),eV t n k m g p r L.p who] w1 fun e w'=>e=.returned (.bool true)/\∃ s' cs',Aw w1 L s b (o+14) T cs t n σ c lk F x who γ w' s' cs' c' lk' F' γ') :
 Calls Tryz.prog 148 #[pP b o,eV t n k m g p r L.p who] w fun e w'=>e=.returned (.bool true)/\XJ L b o T cs w w' (fun s' a'=>Yo t n s' (σ+1) c' lk' F'/\(∃ v,s'=(s.by who).step (γ.at t x) v)/\γ'.good n c' lk' F' x/\∃ l',γ'.cells x l'/\a'={ a with gl:=l',nx:=7 }):=by
 have hw:=hh.call
 have ds:=fun(w':World) (m':Z8 w' L s)=>Y8 (x:=x) m' hG hlen who
 rw[decide_eq_true (by omega)] at ds
 have i0:=hi.grown (ZY _ (.cells #[iV t,iV n,iV k,iV m,iV g,iV p,iV r,pP L.p 0,iV who] 26))
 have k0:=i0.Zz
 have k1:=i0.Ul
 rw[hnx] at k0
 clear hh
 obtain⟨hbv,hbb⟩:=nb h hi.lt
 have Zm:¬ L.has (w.heap.size+1):=fun hh=>by have:=h.lt _ hh;omega
 have Zj:¬ w.heap.size+1=b:=fun hh=>by have:=hi.lt;omega
 go_enter Tryz.func148,Tryz.ntmps148
 go_wp2_with (first
  | (go_at_call 149;refine(hw _).mono ?_;rintro e w1 ⟨rfl,b1⟩;have i1:=(i0.grown b1).grown (ZY _ (.cells #[iV x,iV G] 173));have v1:=(ZR.new.grown b1).grown (ZY _ (.cells #[iV x,iV G] 173));have m1:=((h.alloc _).below b1).alloc (.cells #[iV x,iV G] 173);have o1:Only (L.and b) w (w1.alloc (.cells #[iV x,iV G] 173)):=(((Only.refl _ _).alloc _).trans (Only.ZZ b1)).alloc (.cells #[iV x,iV G] 173);have x1:=At.new w1 173 [iV (x:Nat),iV G];have u0:=x1.at0 0 rfl;obtain⟨y0,y1,y2,y3,y4,y5,y6,y7,y8⟩:=id v1)
  | (go_at_call 150;refine(ds _ m1).mono ?_;rintro e w2 ⟨rfl,b2⟩;have i2:=i1.grown b2;have v2:=v1.grown b2;have m2:=m1.below b2;have x2:=x1.grown b2;have o2:=o1.trans (Only.ZZ b2);have q0:=x2.at0 0 rfl;have q1:=x2.at0 1 rfl;have k2:=i2.Zz;rw[hnx] at k2;obtain⟨z0,z1,z2,z3,z4,z5,z6,z7,z8⟩:=id v2;have kf:=i2.fz))
 refine ZW (fun W=>Z8 W L s/\ZK W b o T cs a/\ZR W w.heap.size t n k m g p r L.p who/\Only (L.and b) w W) ⟨m2,i2,v2,o2⟩ ?_
 clear b1 b2 i0 i1 i2 v1 v2 m1 m2 x1 x2 o1 o2 u0 q0 q1 k0 k1 k2 kf y0 z0 y1 z1 y2 z2 y3 z3 y4 z4 y5 z5 y6 z6 y7 z7 y8 z8
 rintro W ⟨m1,i1,v1,o1⟩
 apply Xo 4;. kernel_rfl
 iterate 3 (apply rV;. intros;apply ol;go_simp;exact gl)
 apply X8;. intro w' hg _;apply ol;have y:=(v1.dg hg).yy;go_simp;exact gl
 try simp only[pu,s0,s1]
 intro w5 hg _
 have m5:=m1.drew.below hg
 have i5:=i1.drew.grown hg
 have o5:=o1.og hg
 clear hg m1 i1 v1 o1
 go_wp2_with (go_at_call 123;refine(hc _ m5 i5.tK).mono ?_;rintro e w6 ⟨rfl,s6,VI,P⟩;obtain⟨l6,i6,q6⟩:=P.a;have i7:=i5.IJ i6 (Gv.Zl q6) P.same;have o7:=o5.trans P.only;have q7:Same o 21 cs VI:=P.same.wide (by omega) (by omega);have k0:=i7.Zz;rw[show ({ a with gl:=l6 }:DV).nx=6 from hnx] at k0;have kf:=i7.fz)
 go_ret
 exact⟨rfl,s6,_,_,P.m.ZX hb _ _,o7.set _ _,i7.Zh 7,q7.set (by omega) _,P.p,P.st,P.good,l6,q6,rfl⟩
end Go.Proofs.YtpbghmeikcphnabGreat
