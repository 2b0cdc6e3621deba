import Derived.Test.YtgehjolndmgffaaGreatAccLoad
import Derived.Test.YtgehjolndmgffaaGreatAccCheck
import Derived.Test.YtgehjolndmgffaaGreatAccLay
namespace Go.Proofs.YtgehjolndmgffaaGreat
open Go.RowKit
set_option maxRecDepth 20000
set_option maxHeartbeats 400000 in
theorem Y3 {w:World} {L:Loc} {s:Mm} {b o:Nat} {T:TypeId} {cs:Array Value} {t n k m:Nat} {g p r:Int} {a:CV} (h:Z8 w L s) (hi:ZG w b o T cs a) (who:Int) (x:Nat) (G:Int) {z:Int} {f:Nat} {A:Array Value} (hnx:a.nx=z) (hf:(z=0/\f=210/\A=#[pP b o,eV t n k m g p r L.p who,.agg #[iV x,iV G]])\/(z=1/\f=211/\A=#[pP b o,eV t n k m g p r L.p who])\/(z=2/\f=212/\A=#[pP b o,eV t n k m g p r L.p who,.agg #[iV x,iV G]])\/(z=3/\f=213/\A=#[pP b o,eV t n k m g p r L.p who,.agg #[iV x,iV G]])\/(z=5/\f=214/\A=#[pP b o,eV t n k m g p r L.p who,.agg #[iV x,iV G]])\/(z=6/\f=215/\A=#[pP b o,eV t n k m g p r L.p who])) (X:Mm->CV->Prop)
 (hc:∀ w1:World,Z8 w1 L s->ZG w1 b o T cs a->Calls Tryz.prog f A w1 fun e w'=>e=.returned (.tuple #[])/\Vr L b o T cs w1 w' X) :
 Calls Tryz.prog 209 #[pP b o,eV t n k m g p r L.p who,.agg #[iV x,iV G]] w fun e w'=>e=.returned (.tuple #[])/\Vr L b o T cs w w' X:=by
 have m0:=(h.alloc (.cells #[iV t,iV n,iV k,iV m,iV g,iV p,iV r,pP L.p 0,iV who] 27)).alloc (.cells #[iV x,iV G] 213)
 have i0:=(hi.grown (ZZ _ (.cells #[iV t,iV n,iV k,iV m,iV g,iV p,iV r,pP L.p 0,iV who] 27))).grown (ZZ _ (.cells #[iV x,iV G] 213))
 have o0:Only (L.and b) w ((w.alloc (.cells #[iV t,iV n,iV k,iV m,iV g,iV p,iV r,pP L.p 0,iV who] 27)).alloc (.cells #[iV x,iV G] 213)):=((Only.refl _ _).alloc _).alloc _
 have v0:ZP ((w.alloc (.cells #[iV t,iV n,iV k,iV m,iV g,iV p,iV r,pP L.p 0,iV who] 27)).alloc (.cells #[iV x,iV G] 213)) w.heap.size t n k m g p r L.p who:=ZP.Xb _
 have x0:=At.Xo w (.cells #[iV t,iV n,iV k,iV m,iV g,iV p,iV r,pP L.p 0,iV who] 27) 213 [iV (x:Nat),iV G]
 have k0:=i0.Zr
 rw[hnx] at k0
 obtain⟨y0,y1,y2,y3,y4,y5,y6,y7,y8⟩:=id v0
 have u0:=x0.at0 0 rfl
 have u1:=x0.at0 1 rfl
 rcases hf with⟨rfl,rfl,rfl⟩ | ⟨rfl,rfl,rfl⟩ | ⟨rfl,rfl,rfl⟩ | ⟨rfl,rfl,rfl⟩ | ⟨rfl,rfl,rfl⟩ | ⟨rfl,rfl,rfl⟩
 all_goals
  go_enter Tryz.func209,Tryz.ntmps209
  go_wp2_with (first | (go_at_call 210;refine(hc _ m0 i0).mono ?_;rintro e w3 ⟨rfl,s3,QS,a3,m3,o3,i3,q3,p3⟩) | (go_at_call 211;refine(hc _ m0 i0).mono ?_;rintro e w3 ⟨rfl,s3,QS,a3,m3,o3,i3,q3,p3⟩) | (go_at_call 212;refine(hc _ m0 i0).mono ?_;rintro e w3 ⟨rfl,s3,QS,a3,m3,o3,i3,q3,p3⟩) | (go_at_call 213;refine(hc _ m0 i0).mono ?_;rintro e w3 ⟨rfl,s3,QS,a3,m3,o3,i3,q3,p3⟩) | (go_at_call 214;refine(hc _ m0 i0).mono ?_;rintro e w3 ⟨rfl,s3,QS,a3,m3,o3,i3,q3,p3⟩) | (go_at_call 215;refine(hc _ m0 i0).mono ?_;rintro e w3 ⟨rfl,s3,QS,a3,m3,o3,i3,q3,p3⟩))
  go_end0
  exact⟨rfl,s3,QS,a3,m3,o0.trans o3,i3,q3,p3⟩
set_option maxHeartbeats 400000 in
theorem Y2 {w:World} {L:Loc} {s:Mm} {b o:Nat} {T:TypeId} {cs:Array Value} {t n k m:Nat} {g p r:Int} {a:CV} (h:Z8 w L s) (hi:ZG w b o T cs a) (who:Int) (hk:a.kd=1\/a.kd=2\/a.kd=3) (hG:Good t n k m g p r) (hlen:ZI t n k m<=s.n) {x:Nat} {G:Int} (hh:YY a.nu x G) (hx:x<n) (hnx:¬ a.nx=7) (X:Mm->CV->Prop) (d:Bool) (hX:∀ s' a',X s' a'->(a'.nx == 7)=d)
 (hc:∀ w1:World,Z8 w1 L s->ZG w1 b o T cs a->Calls Tryz.prog 209 #[pP b o,eV t n k m g p r L.p who,.agg #[iV x,iV G]] w1 fun e w'=>e=.returned (.tuple #[])/\Vr L b o T cs w1 w' X) :
 Calls Tryz.prog 205 #[pP b o,eV t n k m g p r L.p who] w fun e w'=>e=.returned (.bool d)/\Vr L b o T cs w w' X:=by
 have hw:=hh.call
 have kn:=fun w=>Vq hk w
 have ds:=fun(w':World) (m':Z8 w' L s)=>TP (x:=x) m' hG hlen who
 rw[decide_eq_true (by omega)] at ds
 have i0:=hi.grown (ZZ _ (.cells #[iV t,iV n,iV k,iV m,iV g,iV p,iV r,pP L.p 0,iV who] 27))
 have k0:=i0.Zr
 have k1:=i0.SQ
 clear hh
 go_enter Tryz.func205,Tryz.ntmps205
 go_wp2_with (first
  | (go_at_call 180;refine(hw _).mono ?_;rintro e w1 ⟨rfl,b1⟩;have i1:=(i0.grown b1).grown (ZZ _ (.cells #[iV x,iV G] 213));have v1:=(ZP.new.grown b1).grown (ZZ _ (.cells #[iV x,iV G] 213));have m1:=((h.alloc _).below b1).alloc (.cells #[iV x,iV G] 213);have o1:Only (L.and b) w (w1.alloc (.cells #[iV x,iV G] 213)):=(((Only.refl _ _).alloc _).trans (Only.Z5 b1)).alloc (.cells #[iV x,iV G] 213);have x1:=At.new w1 213 [iV (x:Nat),iV G];have u0:=x1.at0 0 rfl;have u1:=x1.at0 1 rfl;have kk:=i1.P6;obtain⟨y0,y1,y2,y3,y4,y5,y6,y7,y8⟩:=id v1)
  | (go_at_call 206;refine(kn _).mono ?_;rintro e w9 ⟨rfl,rfl⟩)
  | (go_at_call 208;refine(ds _ m1).mono ?_;rintro e w2 ⟨rfl,b2⟩;have i2:=i1.grown b2;have v2:=v1.grown b2;have m2:=m1.below b2;have x2:=x1.grown b2;have o2:=o1.trans (Only.Z5 b2);have q0:=x2.at0 0 rfl;have q1:=x2.at0 1 rfl;obtain⟨z0,z1,z2,z3,z4,z5,z6,z7,z8⟩:=id v2;have kf:=i2.fz)
  | (go_at_call 209;refine(hc _ m2 i2).mono ?_;rintro e w3 ⟨rfl,s3,QS,a3,m3,o3,i3,q3,p3⟩;have k3:=i3.Zr))
 go_ret
 exact⟨XV (hX _ _ p3),s3,QS,a3,m3,o2.trans o3,i3,q3,p3⟩
theorem MP {w:World} {L:Loc} {s:Mm} {b o:Nat} {T:TypeId} {cs:Array Value} {t n k m:Nat} {g p r:Int} {a:CV} (h:Z8 w L s) (hi:ZG w b o T cs a) (who:Int) (hk:a.kd=1\/a.kd=2\/a.kd=3) (hG:Good t n k m g p r) (hlen:ZI t n k m<=s.n) {x:Nat} {G:Int} (hh:YY a.nu x G) (hb:¬ L.has b) (hx:n<=x) (hnx:¬ a.nx=7) {σ:Nat} (hσ:s.steps=σ) :
 Calls Tryz.prog 205 #[pP b o,eV t n k m g p r L.p who] w fun e w'=>e=.returned (.bool true)/\Vr L b o T cs w w' (fun s' a'=>s'=s/\a'={ a with nx:=7,E:=3,H:=0,V:=0,St:=σ }):=by
 have hw:=hh.call
 have kn:=fun w=>Vq hk w
 have ds:=fun(w':World) (m':Z8 w' L s)=>TP (x:=x) m' hG hlen who
 rw[decide_eq_false (by omega)] at ds
 have i0:=hi.grown (ZZ _ (.cells #[iV t,iV n,iV k,iV m,iV g,iV p,iV r,pP L.p 0,iV who] 27))
 have k0:=i0.Zr
 have k1:=i0.SQ
 clear hh
 go_enter Tryz.func205,Tryz.ntmps205
 go_wp2_with (first
  | (go_at_call 180;refine(hw _).mono ?_;rintro e w1 ⟨rfl,b1⟩;have i1:=(i0.grown b1).grown (ZZ _ (.cells #[iV x,iV G] 213));have v1:=(ZP.new.grown b1).grown (ZZ _ (.cells #[iV x,iV G] 213));have m1:=((h.alloc _).below b1).alloc (.cells #[iV x,iV G] 213);have o1:Only (L.and b) w (w1.alloc (.cells #[iV x,iV G] 213)):=(((Only.refl _ _).alloc _).trans (Only.Z5 b1)).alloc (.cells #[iV x,iV G] 213);have x1:=At.new w1 213 [iV (x:Nat),iV G];have u0:=x1.at0 0 rfl;have u1:=x1.at0 1 rfl;have kk:=i1.P6;obtain⟨y0,y1,y2,y3,y4,y5,y6,y7,y8⟩:=id v1)
  | (go_at_call 206;refine(kn _).mono ?_;rintro e w9 ⟨rfl,rfl⟩)
  | (go_at_call 208;refine(ds _ m1).mono ?_;rintro e w2 ⟨rfl,b2⟩;have i2:=i1.grown b2;have v2:=v1.grown b2;have m2:=m1.below b2;have x2:=x1.grown b2;have o2:=o1.trans (Only.Z5 b2);have q0:=x2.at0 0 rfl;have q1:=x2.at0 1 rfl;obtain⟨z0,z1,z2,z3,z4,z5,z6,z7,z8⟩:=id v2;have kf:=i2.fz)
  | (go_at_call 11;refine(Yk m2 _ _ _ _ _ _ _ _ σ hσ).mono ?_;rintro e w8 ⟨rfl,b8⟩)
  | (go_at_call 207;refine(OH (m2.below b8) hb (i2.grown b8) 3 0 σ).mono ?_;rintro e w3 ⟨rfl,s3,QS,a3,m3,o3,i3,q3,rfl,rfl⟩;have k3:w3.cell? ⟨b,o,none⟩=some (iV 7):=i3.Zr))
 go_ret
 exact⟨rfl,_,QS,_,m3,(o2.trans (Only.Z5 b8)).trans o3,i3,q3,rfl,rfl⟩
theorem OD {w:World} {L:Loc} {s:Mm} {b o:Nat} {T:TypeId} {cs:Array Value} {t n k m:Nat} {g p r:Int} {a:CV} (h:Z8 w L s) (hi:ZG w b o T cs a) (who:Int) (hk:a.kd=1\/a.kd=2\/a.kd=3) (hb:¬ L.has b) (h0:0<=a.nu) (h1:a.nu<=18446744073709551615) (hn:a.nu<65536\/4294967296<=a.nu) (hnx:¬ a.nx=7) {σ:Nat} (hσ:s.steps=σ) :
 Calls Tryz.prog 205 #[pP b o,eV t n k m g p r L.p who] w fun e w'=>e=.returned (.bool true)/\Vr L b o T cs w w' (fun s' a'=>s'=s/\a'={ a with nx:=7,E:=3,H:=0,V:=0,St:=σ }):=by
 have hw:=fun w=>QC a.nu w h0 h1 hn
 have kn:=fun w=>Vq hk w
 have i0:=hi.grown (ZZ _ (.cells #[iV t,iV n,iV k,iV m,iV g,iV p,iV r,pP L.p 0,iV who] 27))
 have k0:=i0.Zr
 have k1:=i0.SQ
 clear hn
 go_enter Tryz.func205,Tryz.ntmps205
 go_wp2_with (first
  | (go_at_call 180;refine(hw _).mono ?_;rintro e w1 ⟨rfl,b1⟩;have i1:=(i0.grown b1).grown (ZZ _ (.cells #[iV 0,iV 0] 213));have v1:=(ZP.new.grown b1).grown (ZZ _ (.cells #[iV 0,iV 0] 213));have m1:=((h.alloc _).below b1).alloc (.cells #[iV 0,iV 0] 213);have o1:Only (L.and b) w (w1.alloc (.cells #[iV 0,iV 0] 213)):=(((Only.refl _ _).alloc _).trans (Only.Z5 b1)).alloc (.cells #[iV 0,iV 0] 213);have x1:=At.new w1 213 [iV 0,iV 0];have u0:=x1.at0 0 rfl;have u1:=x1.at0 1 rfl;have kk:=i1.P6;obtain⟨y0,y1,y2,y3,y4,y5,y6,y7,y8⟩:=id v1)
  | (go_at_call 206;refine(kn _).mono ?_;rintro e w9 ⟨rfl,rfl⟩)
  | (go_at_call 11;refine(Yk m1 _ _ _ _ _ _ _ _ σ hσ).mono ?_;rintro e w8 ⟨rfl,b8⟩)
  | (go_at_call 207;refine(OH (m1.below b8) hb (i1.grown b8) 3 0 σ).mono ?_;rintro e w3 ⟨rfl,s3,QS,a3,m3,o3,i3,q3,rfl,rfl⟩;have k3:w3.cell? ⟨b,o,none⟩=some (iV 7):=i3.Zr))
 go_ret
 exact⟨rfl,_,QS,_,m3,(o1.trans (Only.Z5 b8)).trans o3,i3,q3,rfl,rfl⟩
end Go.Proofs.YtgehjolndmgffaaGreat
