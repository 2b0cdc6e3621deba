import Derived.WalkKit
import Derived.WalkSpells
import Derived.WalkLawsBesides
import Derived.Deep.OwnRows
import Derived.Deep.QuietTactic
import Derived.Deep.RegionWith
import Derived.BigQuiet
import Derived.RegionTactic
import Derived.BigRegion
import Derived.ChangeAlike
import Derived.Test.YtgehjolndmgffaaGreatRows
import Derived.Test.YtgehjolndmgffaaGreatMath
namespace Go.Proofs.YtgehjolndmgffaaGreat
open Go.RowKit
section
structure Only (S:Nat->Prop) (w w':World):Prop where
 os:w'.os=w.os
 tape:w'.tape=w.tape
 output:w'.output=w.output
 size:w.heap.size<=w'.heap.size
 block:∀ k,k<w.heap.size->¬ S k->w'.heap[k]?=w.heap[k]?
namespace Only
variable {S:Nat->Prop} {w w' w'':World}
theorem refl (S:Nat->Prop) (w:World):Only S w w:=⟨rfl,rfl,rfl,Nat.le_refl _,fun _ _ _=>rfl⟩
theorem trans (h:Only S w w') (k:Only S w' w''):Only S w w'' :=
 ⟨k.os.trans h.os,k.tape.trans h.tape,k.output.trans h.output,Nat.le_trans h.size k.size,fun i hi hs=>(k.block i (Nat.lt_of_lt_of_le hi h.size) hs).trans (h.block i hi hs)⟩
theorem grow {T:Nat->Prop} (h:Only S w w') (k:Only T w' w'') (hT:∀ i,i<w.heap.size->T i->S i):Only S w w'' :=
 ⟨k.os.trans h.os,k.tape.trans h.tape,k.output.trans h.output,Nat.le_trans h.size k.size,fun i hi hs=>(k.block i (Nat.lt_of_lt_of_le hi h.size) (fun t=>hs (hT i hi t))).trans (h.block i hi hs)⟩
theorem mono {T:Nat->Prop} (h:Only S w w') (hT:∀ i,i<w.heap.size->S i->T i):Only T w w' :=
 ⟨h.os,h.tape,h.output,h.size,fun i hi hs=>h.block i hi (fun t=>hs (hT i hi t))⟩
theorem drew (h:Only S w w'):Only S w w'.drew:=⟨h.os,h.tape,h.output,h.size,h.block⟩
theorem alloc (h:Only S w w') (o:Obj):Only S w (w'.alloc o) :=
 h.trans ⟨rfl,rfl,rfl,by rw[Go.Deep.nblk_alloc];omega,fun k hk _=>Go.Deep.blk_alloc_lt _ _ _ hk⟩
theorem setCell (h:Only S w w') {a:Addr} (ha:a.block<w.heap.size->S a.block) (v:Value):Only S w (w'.setCell a v) :=
 ⟨h.os,h.tape,h.output,by rw[Go.Deep.nblk_setCell];exact h.size,fun k hk hs=>by
  rw[Go.Deep.blk_setCell_other _ _ _ _ (fun e=>hs (by rw[e] at hk ⊢;exact ha hk))];exact h.block k hk hs⟩
theorem below {B:Nat} (h:Only S w w') (hB:B<=w.heap.size) (hS:∀ k,k<B->¬ S k):Below B w w' :=
 ⟨h.os,h.tape,h.output,h.size,fun k hk=>h.block k (by omega) (hS k hk)⟩
theorem O9 {B:Nat} (h:Below B w w'):Only (fun k=>B<=k) w w' :=
 ⟨h.os,h.tape,h.output,h.size,fun k _ hs=>h.block k (by omega)⟩
theorem cell (h:Only S w w') {p:Addr} (hp:p.block<w.heap.size) (hs:¬ S p.block):w'.cell? p=w.cell? p:=World.cell?_of_block (w:=w) (h.block _ hp hs)
theorem keep (h:Only S w w') {b o:Nat} {v:Value} (hs:¬ S b) (hc:w.cell? ⟨b,o,none⟩=some v):w'.cell? ⟨b,o,none⟩=some v :=
 (h.cell (p:=⟨b,o,none⟩) (World.block_lt_of_cell? w _ hc) hs).trans hc
end Only
def Fit (n:Int):Prop:=-9223372036854775808<=n/\n<=9223372036854775807
theorem below_drewN {B:Nat} {w w':World} (h:Below B w w') (n:Nat):Below B w (w'.drewN n):=⟨h.os,h.tape,h.output,h.size,h.block⟩
theorem grow {w a b:World} (h:Below w.heap.size w a) (k:Below a.heap.size a b):Below w.heap.size w b:=h.trans (k.mono h.size)
theorem Z7 {w a:World} (h:Below w.heap.size w a) (o:Obj):Below w.heap.size w (a.alloc o):=h.alloc h.size o
theorem keep' {w w':World} {b o:Nat} {v:Value} (k:Below w.heap.size w w') (h:w.cell? ⟨b,o,none⟩=some v):w'.cell? ⟨b,o,none⟩=some v :=
 (k.cell (p:=⟨b,o,none⟩) (World.block_lt_of_cell? w _ h)).trans h
theorem ZV (w:World) (b o:Nat) (v:Value) (c:Array Value) (t:TypeId) (h:w.heap[b]?=some (.cells c t (0,0))) :
 (w.setCell ⟨b,o,none⟩ v).heap[b]?=some (.cells (c.setIfInBounds o v) t (0,0)):=by
 simp[World.setCell,Array.getElem?_modify,h]
theorem ZW {w:World} {b o:Nat} {v:Value} {c:Array Value} {t:TypeId} (h:w.heap[b]?=some (.cells c t (0,0))) (hv:c[o]?=some v):w.cell? ⟨b,o,none⟩=some v:=by
 simp[World.cell?,h,hv]
theorem YV {w:World} {b:Nat} {c:Array Value} {t:TypeId} (h:w.heap[b]?=some (.cells c t (0,0))) (o:Nat):w.frozen? ⟨b,o,none⟩=false:=by
 simp[World.frozen?,h]
theorem XP {w:World} {b:Nat} {x:Obj} (h:w.heap[b]?=some x):b<w.heap.size:=(Array.getElem?_eq_some_iff.1 h).1
def upd {α:Type} (f:Nat->α) (a:Nat) (v:α):Nat->α:=fun i=>if i=a then v else f i
theorem upd_same {α:Type} (f:Nat->α) (a:Nat) (v:α):upd f a v a=v:=by simp[upd]
theorem ZX {α:Type} (f:Nat->α) (a i:Nat) (v:α) (h:i≠a):upd f a v i=f i:=by simp[upd,h]
theorem Vg {α:Type} (f:Nat->α) (a:Nat):upd f a (f a)=f:=by
 funext i;unfold upd;split <;> simp_all
end
section
structure Later (w:World) where
 now:World
 below:Below w.heap.size w now
theorem Later.exists (w:World):Nonempty (Later w):=⟨⟨w,Below.refl _ _⟩⟩
theorem Zp {P:Program} {id:Nat} {Q:Exit->Act->World->Prop} {a:Act} {w:World} {l:List Oper} (hm:P.follows .mixedOrders=true) (hB:Region.lexB .any l.toArray=true)
 (h:wpQuiet P l.toArray (fun w'=>∃ n:Later w,w'=n.now) (fun a'=>∀ w',(∃ n:Later w,w'=n.now)->Q .normal a' w') l a):(Code.region id l.toArray true).wp P Q a w :=
 wp_region_quiet (C:=fun w'=>∃ n:Later w,w'=n.now) hm hB ⟨⟨_,(Below.refl _ _).drew⟩,rfl⟩ (by simpa using h)
theorem Calls.later {P:Program} {f:FuncId} {args:Array Value} {w:World} {n:Later w} {v:Value}
 (h:Calls P f args n.now fun e w'=>e=.returned v/\Below n.now.heap.size n.now w'):Calls P f args n.now fun e w'=>e=.returned v/\∃ m:Later w,w'=m.now :=
 h.mono fun _ w' ⟨he,hw⟩=>⟨he,⟨w',grow n.below hw⟩,rfl⟩
theorem Calls.Yy {P:Program} {f:FuncId} {args:Array Value} {w:World} {n:Later w} {v:Value}
 (h:Calls P f args n.now fun e w'=>e=.returned v/\w'=n.now):Calls P f args n.now fun e w'=>e=.returned v/\∃ m:Later w,w'=m.now :=
 h.mono fun _ _ ⟨he,hw⟩=>⟨he,n,hw⟩
theorem WC {w:World} {b o:Nat} {v:Value} (h:w.cell? ⟨b,o,none⟩=some v) (O:Obj):(w.alloc O).cell? ⟨b,o,none⟩=some v :=
 (World.cell?_alloc_past O b o (World.block_lt_of_cell? w _ h)).trans h
theorem ZT {P:Program} {c:Code} {Q:Exit->Act->World->Prop} {a:Act} {w:World} (R:World->Prop) (hw:R w) (h:∀ W,R W->c.wp P Q a W):c.wp P Q a w:=h w hw
end
section
structure Yu (t s k n:Int):Prop where
 t0:0<=t
 t1:t<=8
 s0:0<=s
 s1:s<=65536
 k0:0<=k
 k1:k<=64
 n0:0<=n
 n1:n<=256
theorem Ru (n a b:Int) (w:World) :
 Calls Tryz.prog 59 #[.int .i64 n,.int .i64 a,.int .i64 b] w fun e w'=>e=.returned (.bool (decide (a<=n/\n<=b)))/\w'=w:=by
 by_cases h1:a<=n
 . by_cases h2:n<=b
   . go_enter Tryz.func59,Tryz.ntmps59
     go_wp2
     go_ret
     exact⟨by simp[h1,h2],rfl⟩
   . go_enter Tryz.func59,Tryz.ntmps59
     go_wp2
     go_ret
     exact⟨by simp[h2],rfl⟩
 . go_enter Tryz.func59,Tryz.ntmps59
   go_wp2
   go_ret
   exact⟨by simp;omega,rfl⟩
theorem Rt (w:World):Calls Tryz.prog 127 #[] w fun e w'=>e=.returned (.int .i64 0)/\w'=w:=by
 go_enter Tryz.func127,Tryz.ntmps127
 go_wp2
 go_ret
 exact⟨rfl,rfl⟩
theorem Xq (w:World):Calls Tryz.prog 49 #[] w fun e w'=>e=.returned (.int .i64 1)/\w'=w:=by
 go_enter Tryz.func49,Tryz.ntmps49
 go_wp2
 go_ret
 exact⟨rfl,rfl⟩
theorem TW (i:Int) (w:World) (h0:0<=i) (h1:i<=1000000):Calls Tryz.prog 171 #[.int .i64 i] w fun e w'=>e=.returned (.int .i64 (2+i))/\w'=w:=by
 go_enter Tryz.func171,Tryz.ntmps171
 go_wp2
 go_ret
 exact⟨rfl,rfl⟩
theorem UI (i:Int) (w:World) (h0:0<=i) (h1:i<=1000000):Calls Tryz.prog 64 #[.int .i64 i] w fun e w'=>e=.returned (.int .i64 (6+i))/\w'=w:=by
 go_enter Tryz.func64,Tryz.ntmps64
 go_wp2
 go_ret
 exact⟨rfl,rfl⟩
theorem Y4 (t s k n g p r i:Int) (w:World) (h:Yu t s k n) (h0:0<=i) (h1:i<=1000000) :
 Calls Tryz.prog 51 #[.agg #[.int .i64 t,.int .i64 s,.int .i64 k,.int .i64 n,.int .i64 g,.int .i64 p,.int .i64 r],.int .i64 i] w fun e w'=>e=.returned (.int .i64 (6+t+i * 2))/\Below w.heap.size w w':=by
 obtain⟨t0,t1,s0,s1,k0,k1,n0,n1⟩:=h
 go_enter Tryz.func51,Tryz.ntmps51
 go_wp2_with (go_at_call 64;refine(UI _ _ (by omega) (by omega)).mono ?_;rintro e w' ⟨rfl,rfl⟩)
 go_ret
 exact⟨rfl,Z7 (Below.refl _ _) _⟩
theorem WI (t s k n g p r i:Int) (w:World) (h:Yu t s k n) (h0:0<=i) (h1:i<=1000000) :
 Calls Tryz.prog 68 #[.agg #[.int .i64 t,.int .i64 s,.int .i64 k,.int .i64 n,.int .i64 g,.int .i64 p,.int .i64 r],.int .i64 i] w fun e w'=>e=.returned (.int .i64 (6+t+s * 2+i * 3))/\Below w.heap.size w w':=by
 have hA:=h
 obtain⟨t0,t1,s0,s1,k0,k1,n0,n1⟩:=h
 go_enter Tryz.func68,Tryz.ntmps68
 go_wp2_with (go_at_call 51;refine(Y4 _ _ _ _ _ _ _ _ _ hA (by omega) (by omega)).mono ?_;rintro e w' ⟨rfl,b1⟩)
 go_ret
 exact⟨rfl,grow (Z7 (Below.refl _ _) _) b1⟩
structure XR (w:World) (b:Nat) (t s k n g p r:Int):Prop where
 c0:w.cell? ⟨b,0,none⟩=some (.int .i64 t)
 c1:w.cell? ⟨b,1,none⟩=some (.int .i64 s)
 c2:w.cell? ⟨b,2,none⟩=some (.int .i64 k)
 c3:w.cell? ⟨b,3,none⟩=some (.int .i64 n)
 c4:w.cell? ⟨b,4,none⟩=some (.int .i64 g)
 c5:w.cell? ⟨b,5,none⟩=some (.int .i64 p)
 c6:w.cell? ⟨b,6,none⟩=some (.int .i64 r)
theorem XR.new {w:World} {t s k n g p r:Int} {T:TypeId}:XR (w.alloc (.cells #[.int .i64 t,.int .i64 s,.int .i64 k,.int .i64 n,.int .i64 g,.int .i64 p,.int .i64 r] T)) w.heap.size t s k n g p r:=by
 constructor <;> simp
theorem XR.grown {w w':World} {b:Nat} {t s k n g p r:Int} (h:XR w b t s k n g p r) (h':Below w.heap.size w w'):XR w' b t s k n g p r :=
 ⟨keep' h' h.c0,keep' h' h.c1,keep' h' h.c2,keep' h' h.c3,keep' h' h.c4,keep' h' h.c5,keep' h' h.c6⟩
theorem WU (t s k n g p r i m:Int) (w:World) (h:Yu t s k n) (hm:i * n=m) (m0:0<=m) (m1:m<=1000000) :
 Calls Tryz.prog 60 #[.agg #[.int .i64 t,.int .i64 s,.int .i64 k,.int .i64 n,.int .i64 g,.int .i64 p,.int .i64 r],.int .i64 i] w fun e w'=>e=.returned (.int .i64 (6+t+s * 2+k * 3+m))/\Below w.heap.size w w':=by
 have hA:=h
 obtain⟨t0,t1,s0,s1,k0,k1,n0,n1⟩:=h
 go_enter Tryz.func60,Tryz.ntmps60
 go_wp2
 refine ZT (fun W=>XR W w.heap.size t s k n g p r/\Below w.heap.size w W) ⟨XR.new,Z7 (Below.refl _ _) _⟩ ?_
 rintro W ⟨hc,hb⟩
 have e0:=fun N:Later W=>(hc.grown N.below).c0
 have e1:=fun N:Later W=>(hc.grown N.below).c1
 have e2:=fun N:Later W=>(hc.grown N.below).c2
 have e3:=fun N:Later W=>(hc.grown N.below).c3
 have e4:=fun N:Later W=>(hc.grown N.below).c4
 have e5:=fun N:Later W=>(hc.grown N.below).c5
 have e6:=fun N:Later W=>(hc.grown N.below).c6
 haveI:=Later.exists W
 try simp only[iV]
 try simp only[pP]
 try simp only[eV]
 refine Zp (by kernel_rfl) (by kernel_rfl) ?_
 repeat (go_big_quiet_step ((go_at_call 68;exact Calls.later (WI _ _ _ _ _ _ _ _ _ hA (by omega) (by omega)))))
 refine wpQuiet_nil ?_
 rintro _ ⟨nq,rfl⟩
 go_wp2
 go_ret
 exact⟨rfl,grow hb nq.below⟩
theorem Fb (t s k n g p r m:Int) (w:World) (h:Yu t s k n) (hm:k * n=m) (m0:0<=m) (m1:m<=1000000) :
 Calls Tryz.prog 47 #[.agg #[.int .i64 t,.int .i64 s,.int .i64 k,.int .i64 n,.int .i64 g,.int .i64 p,.int .i64 r]] w fun e w'=>e=.returned (.int .i64 (6+t+s * 2+k * 3+m))/\Below w.heap.size w w':=by
 go_enter Tryz.func47,Tryz.ntmps47
 go_wp2_with (go_at_call 60;refine(WU _ _ _ _ _ _ _ _ _ _ h hm m0 m1).mono ?_;rintro e w' ⟨rfl,b1⟩)
 go_ret
 exact⟨rfl,grow (Z7 (Below.refl _ _) _) b1⟩
theorem E8 (t s k n g p r i:Int) (w:World) (h0:0<=i) (h1:i<=1000000) (h:i+1<s) :
 Calls Tryz.prog 53 #[.agg #[.int .i64 t,.int .i64 s,.int .i64 k,.int .i64 n,.int .i64 g,.int .i64 p,.int .i64 r],.int .i64 i] w fun e w'=>e=.returned (.int .i64 (i+1))/\Below w.heap.size w w':=by
 go_enter Tryz.func53,Tryz.ntmps53
 go_wp2
 go_ret
 exact⟨rfl,Z7 (Below.refl _ _) _⟩
theorem Iz (t s k n g p r i:Int) (w:World) (h0:0<=i) (h1:i<=1000000) (h:¬ i+1<s) :
 Calls Tryz.prog 53 #[.agg #[.int .i64 t,.int .i64 s,.int .i64 k,.int .i64 n,.int .i64 g,.int .i64 p,.int .i64 r],.int .i64 i] w fun e w'=>e=.returned (.int .i64 (-1))/\Below w.heap.size w w':=by
 go_enter Tryz.func53,Tryz.ntmps53
 go_wp2
 go_ret
 exact⟨rfl,Z7 (Below.refl _ _) _⟩
def ZR (z:Int):Int:=if z<1 then -1 else if z<=2 then 0 else if z<=4 then 1 else if z<=8 then 2 else if z<=16 then 3 else -1
theorem WM (z:Int) (w:World) :
 Calls Tryz.prog 144 #[.int .i64 z] w fun e w'=>e=.returned (.int .i64 (ZR z))/\w'=w:=by
 by_cases h:z<1
 . go_enter Tryz.func144,Tryz.ntmps144
   go_wp2
   go_ret
   exact⟨Zi (by simp[ZR,h]),rfl⟩
 . go_enter Tryz.func144,Tryz.ntmps144
   go_wp2
   go_loop [3,6] (fun _ i=>i=.int .i64 0\/(i=.int .i64 1/\2<z)\/(i=.int .i64 2/\4<z)\/(i=.int .i64 3/\8<z)\/(i=.int .i64 4/\16<z)) (fun _ i=>4 - (intOf i).toNat)
   case atStart=>exact Or.inl rfl
   case round =>
    rcases hrel with rfl | ⟨rfl,hz⟩ | ⟨rfl,hz⟩ | ⟨rfl,hz⟩ | ⟨rfl,hz⟩
    . by_cases h2:z<=2
      . go_wp2
        go_ret
        exact⟨Zi (by simp[ZR,h,h2]),rfl⟩
      . go_wp2
        go_round
        case rel=>exact Or.inr (Or.inl ⟨rfl,by omega⟩)
        case measure=>simp[intOf]
    . by_cases h2:z<=4
      . go_wp2
        go_ret
        exact⟨Zi (by unfold ZR;simp[h2];omega),rfl⟩
      . go_wp2
        go_round
        case rel=>exact Or.inr (Or.inr (Or.inl ⟨rfl,by omega⟩))
        case measure=>simp[intOf]
    . by_cases h2:z<=8
      . go_wp2
        go_ret
        exact⟨Zi (by unfold ZR;simp[h2];omega),rfl⟩
      . go_wp2
        go_round
        case rel=>exact Or.inr (Or.inr (Or.inr (Or.inl ⟨rfl,by omega⟩)))
        case measure=>simp[intOf]
    . by_cases h2:z<=16
      . go_wp2
        go_ret
        exact⟨Zi (by unfold ZR;simp[h2];omega),rfl⟩
      . go_wp2
        go_round
        case rel=>exact Or.inr (Or.inr (Or.inr (Or.inr ⟨rfl,by omega⟩)))
        case measure=>simp[intOf]
    . go_wp2
      go_ret
      exact⟨Zi (by unfold ZR;simp;omega),rfl⟩
theorem Iy (c:Int) (w:World) (h0:0<=c) (h1:c<=3) :
 Calls Tryz.prog 151 #[.int .i64 c] w fun e w'=>e=.returned (.int .i64 (2 * 2 ^ c.toNat+1))/\w'=w:=by
 have hcs:c=0\/c=1\/c=2\/c=3:=by omega
 rcases hcs with rfl | rfl | rfl | rfl
 all_goals
  go_enter Tryz.func151,Tryz.ntmps151
  go_wp2_with (go_at_call 59;refine(Ru _ _ _ _).mono ?_;rintro e w' ⟨rfl,rfl⟩;rw[decide_eq_true (by omega)])
  go_ret
  exact⟨rfl,rfl⟩
def win (n a b:Int):Bool:=decide (a<=n/\n<=b)
def may (t s k n g p r:Int):Bool:=win t 1 8 && win s 1 65536 && win k 1 64 && win n 17 256 && win g 1 65535 && win p 0 1000 && win r 1 16
theorem seven:∀ a b c d e f g:Bool,a=false\/(a=true/\b=false)\/(a=true/\b=true/\c=false)\/(a=true/\b=true/\c=true/\d=false)\/(a=true/\b=true/\c=true/\d=true/\e=false) \/
 (a=true/\b=true/\c=true/\d=true/\e=true/\f=false)\/(a=true/\b=true/\c=true/\d=true/\e=true/\f=true/\g=false)\/(a=true/\b=true/\c=true/\d=true/\e=true/\f=true/\g=true):=by
 intro a b c d e f g
 cases a <;> cases b <;> cases c <;> cases d <;> cases e <;> cases f <;> cases g <;> simp
theorem Iw (t s k n g p r:Int) :
 win t 1 8=false\/(win t 1 8=true/\win s 1 65536=false)\/(win t 1 8=true/\win s 1 65536=true/\win k 1 64=false) \/
 (win t 1 8=true/\win s 1 65536=true/\win k 1 64=true/\win n 17 256=false) \/
 (win t 1 8=true/\win s 1 65536=true/\win k 1 64=true/\win n 17 256=true/\win g 1 65535=false) \/
 (win t 1 8=true/\win s 1 65536=true/\win k 1 64=true/\win n 17 256=true/\win g 1 65535=true/\win p 0 1000=false) \/
 (win t 1 8=true/\win s 1 65536=true/\win k 1 64=true/\win n 17 256=true/\win g 1 65535=true/\win p 0 1000=true/\win r 1 16=false) \/
 (win t 1 8=true/\win s 1 65536=true/\win k 1 64=true/\win n 17 256=true/\win g 1 65535=true/\win p 0 1000=true/\win r 1 16=true):=by
 exact seven _ _ _ _ _ _ _
theorem Yp (n a b:Int) (x:Bool) (hx:win n a b=x) (w:World) :
 Calls Tryz.prog 59 #[.int .i64 n,.int .i64 a,.int .i64 b] w fun e w'=>e=.returned (.bool x)/\w'=w:=by
 subst hx;exact Ru n a b w
set_option maxHeartbeats 2000000 in
theorem Rq (t s k n g p r:Int) (w:World) :
 Calls Tryz.prog 45 #[.agg #[.int .i64 t,.int .i64 s,.int .i64 k,.int .i64 n,.int .i64 g,.int .i64 p,.int .i64 r]] w fun e w'=>e=.returned (.bool (may t s k n g p r))/\Below w.heap.size w w':=by
 rcases Iw t s k n g p r with h1 | ⟨h1,h2⟩ | ⟨h1,h2,h3⟩ | ⟨h1,h2,h3,h4⟩ | ⟨h1,h2,h3,h4,h5⟩ | ⟨h1,h2,h3,h4,h5,h6⟩ | ⟨h1,h2,h3,h4,h5,h6,h7⟩ | ⟨h1,h2,h3,h4,h5,h6,h7⟩
 all_goals
  go_enter Tryz.func45,Tryz.ntmps45
  go_wp2_with (first
   | (go_at_call_of 59 (Value.int .i64 t);refine(Yp _ _ _ _ h1 _).mono ?_;rintro e w' ⟨rfl,rfl⟩)
   | (go_at_call_of 59 (Value.int .i64 s);refine(Yp _ _ _ _ h2 _).mono ?_;rintro e w' ⟨rfl,rfl⟩)
   | (go_at_call_of 59 (Value.int .i64 k);refine(Yp _ _ _ _ h3 _).mono ?_;rintro e w' ⟨rfl,rfl⟩)
   | (go_at_call_of 59 (Value.int .i64 n);refine(Yp _ _ _ _ h4 _).mono ?_;rintro e w' ⟨rfl,rfl⟩)
   | (go_at_call_of 59 (Value.int .i64 g);refine(Yp _ _ _ _ h5 _).mono ?_;rintro e w' ⟨rfl,rfl⟩)
   | (go_at_call_of 59 (Value.int .i64 p);refine(Yp _ _ _ _ h6 _).mono ?_;rintro e w' ⟨rfl,rfl⟩)
   | (go_at_call_of 59 (Value.int .i64 r);refine(Yp _ _ _ _ h7 _).mono ?_;rintro e w' ⟨rfl,rfl⟩))
  go_ret
  refine⟨?_,Z7 (Below.refl _ _) _⟩
  unfold may
  first
   | rw[h1,h2,h3,h4,h5,h6,h7];rfl
   | rw[h1,h2,h3,h4,h5,h6];rfl
   | rw[h1,h2,h3,h4,h5];rfl
   | rw[h1,h2,h3,h4];rfl
   | rw[h1,h2,h3];rfl
   | rw[h1,h2];rfl
   | rw[h1];rfl
end
end Go.Proofs.YtgehjolndmgffaaGreat
