import Derived.Test.YtlolfmoolgenpaaGreatActStep
import Derived.Test.YtlolfmoolgenpaaGreatArgs
namespace Go.Proofs.YtlolfmoolgenpaaGreat
open Go.RowKit
def XaFit (X : Xa) : Prop:=Fit X.kd /\ Fit X.sz /\ FitW X.nu /\ Fit X.ix /\ Fit X.vl /\ Fit X.ol
def XasAt (w : World) (ao : Option Addr) (n : Nat) (A : Nat -> Xa) : Prop :=
 ∀ i,i < n -> ∃ b off,ao = some ⟨b,off,none⟩ /\ w.cell? ⟨b,off + i * 7,none⟩ = some (.int .i64 (A i).kd) /\ w.cell? ⟨b,off + i * 7 + 1,none⟩ = some (.int .i64 (A i).sz) /\ w.cell? ⟨b,off + i * 7 + 2,none⟩ = some (.int .u64 (A i).nu) /\ w.cell? ⟨b,off + i * 7 + 3,none⟩ = some (.int .i64 (A i).ix) /\ w.cell? ⟨b,off + i * 7 + 4,none⟩ = some (.int .i64 (A i).vl) /\ w.cell? ⟨b,off + i * 7 + 5,none⟩ = some (.int .i64 (A i).ol) /\ w.cell? ⟨b,off + i * 7 + 6,none⟩ = some (.bool (A i).own)
theorem XasAt.grown {w w' : World} {ao : Option Addr} {n : Nat} {A : Nat -> Xa} (h : XasAt w ao n A) (g : Below w.heap.size w w') : XasAt w' ao n A:=fun i hi=>by
 obtain ⟨b,off,e,h0,h1,h2,h3,h4,h5,h6⟩:=h i hi
 exact ⟨b,off,e,keep' g h0,keep' g h1,keep' g h2,keep' g h3,keep' g h4,keep' g h5,keep' g h6⟩
theorem kind5 (z : Int) : ∃ k : Int,1 + z.tmod 5 % 5 = k /\ 1 <= k /\ k <= 5 /\ -5 < z.tmod 5 /\ z.tmod 5 < 5:=by
 have h1 : -(5 : Int) < z.tmod 5:=Int.lt_tmod_of_pos z (by omega)
 have h3 : z.tmod 5 < 5:=Int.tmod_lt_of_pos z (by omega)
 exact ⟨_,rfl,by omega,by omega,h1,h3⟩
theorem value40 (z : Int) : ∃ y : Int,bits .and .i64 z 1099511627775 = y /\ 0 <= y /\ y <= 1099511627775:=by
 obtain ⟨y,h1,h2,h3⟩:=lowAt z 1099511627775 40 0 (by decide) (by decide)
 refine ⟨y,by rw [<- h1];omega,by omega,?_⟩
 have : ((y : Nat) : Int) <= ((0 : Nat) : Int) + 1099511627775:=h3
 omega
theorem cut_any (X : Xa) : ∃ Y : Xa,Y.may = true /\ Y.sz = X.sz /\ Y.nu = X.nu /\ Y.ix = X.ix /\ Y.own = X.own /\ (∀ w : World,Calls Tryz.prog 11 #[X.v] w fun e w'=>e = .returned Y.v /\ Below w.heap.size w w'):=by
 obtain ⟨kx,sz,nu,ix,vl,ol,own⟩:=X
 obtain ⟨kd,hk,k1,k5,b1,b2⟩:=kind5 kx
 obtain ⟨v,hv,v0,v1⟩:=value40 vl
 obtain ⟨o,ho,o0,o1⟩:=value40 ol
 refine ⟨⟨kd,sz,nu,ix,v,o,own⟩,?_,rfl,rfl,rfl,rfl,fun w=>?_⟩
 · simp [Xa.may,fitsV,k1,k5,v0,v1,o0,o1]
 show Calls Tryz.prog 11 #[.agg #[.int .i64 kx,.int .i64 sz,.int .u64 nu,.int .i64 ix,.int .i64 vl,.int .i64 ol,.bool own]] w _
 go_enter Tryz.func11,Tryz.ntmps11
 go_wp2
 have d0:=At.new (w.alloc (.cells #[.int .i64 kd,.int .i64 sz,.int .u64 nu,.int .i64 ix,.int .i64 v,.int .i64 o,.bool own] 36)) 36 [.int .i64 kd,.int .i64 sz,.int .u64 nu,.int .i64 ix,.int .i64 v,.int .i64 o,.bool own]
 rw [Go.Deep.nblk_alloc] at d0
 have z0:=d0.at0 0 rfl
 have z1:=d0.at0 1 rfl
 have z2:=d0.at0 2 rfl
 have z3:=d0.at0 3 rfl
 have z4:=d0.at0 4 rfl
 have z5:=d0.at0 5 rfl
 have z6:=d0.at0 6 rfl
 refine bodyPost_ret (v:=.agg #[.int .i64 kd,.int .i64 sz,.int .u64 nu,.int .i64 ix,.int .i64 v,.int .i64 o,.bool own]) (by simp [results,Tryz.results11,go_sem,z0,z1,z2,z3,z4,z5,z6]) rfl ?_
 exact ⟨rfl,grow_alloc (grow_alloc (Below.refl _ _) _) _⟩
end Go.Proofs.YtlolfmoolgenpaaGreat
