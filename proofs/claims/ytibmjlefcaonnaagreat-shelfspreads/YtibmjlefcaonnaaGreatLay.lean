import Derived.Test.YtibmjlefcaonnaaGreatOnly
import Derived.Deep.RegionWith
import Derived.Test.YtibmjlefcaonnaaGreatRows
import Derived.Test.YtibmjlefcaonnaaGreatMath
namespace Go.Proofs.YtibmjlefcaonnaaGreat
open Go.RowKit
section
structure Later (w:World) where
 now:World
 below:Below w.heap.size w now
theorem Later.exists (w:World):Nonempty (Later w):=⟨⟨w,Below.refl _ _⟩⟩
theorem Zp {P:Program} {id:Nat} {Q:Exit->Act->World->Prop} {a:Act} {w:World} {l:List Oper} (hm:P.follows .mixedOrders=true) (hB:Region.lexB .any l.toArray=true)
 (h:wpQuiet P l.toArray (fun w'=>∃ n:Later w,w'=n.now) (fun a'=>∀ w',(∃ n:Later w,w'=n.now)->Q .normal a' w') l a):(Code.region id l.toArray true).wp P Q a w :=
 wp_region_quiet (C:=fun w'=>∃ n:Later w,w'=n.now) hm hB ⟨⟨_,(Below.refl _ _).drew⟩,rfl⟩ (by simpa using h)
theorem Calls.later {P:Program} {f:FuncId} {args:Array Value} {w:World} {n:Later w} {v:Value}
 (h:Calls P f args n.now fun e w'=>e=.returned v/\Below n.now.heap.size n.now w'):Calls P f args n.now fun e w'=>e=.returned v/\∃ m:Later w,w'=m.now :=
 h.mono fun _ w' ⟨he,hw⟩=>⟨he,⟨w',grow n.below hw⟩,rfl⟩
theorem Calls.Yx {P:Program} {f:FuncId} {args:Array Value} {w:World} {n:Later w} {v:Value}
 (h:Calls P f args n.now fun e w'=>e=.returned v/\w'=n.now):Calls P f args n.now fun e w'=>e=.returned v/\∃ m:Later w,w'=m.now :=
 h.mono fun _ _ ⟨he,hw⟩=>⟨he,n,hw⟩
theorem WC {w:World} {b o:Nat} {v:Value} (h:w.cell? ⟨b,o,none⟩=some v) (O:Obj):(w.alloc O).cell? ⟨b,o,none⟩=some v :=
 (World.cell?_alloc_past O b o (World.block_lt_of_cell? w _ h)).trans h
theorem ZT {P:Program} {c:Code} {Q:Exit->Act->World->Prop} {a:Act} {w:World} (R:World->Prop) (hw:R w) (h:∀ W,R W->c.wp P Q a W):c.wp P Q a w:=h w hw
end
section
structure Yr (t s k n:Int):Prop where
 t0:0<=t
 t1:t<=8
 s0:0<=s
 s1:s<=65536
 k0:0<=k
 k1:k<=64
 n0:0<=n
 n1:n<=256
theorem RI (n a b:Int) (w:World) :
 Calls Tryz.prog 51 #[.int .i64 n,.int .i64 a,.int .i64 b] w fun e w'=>e=.returned (.bool (decide (a<=n/\n<=b)))/\w'=w:=by
 by_cases h1:a<=n
 . by_cases h2:n<=b
   . go_enter Tryz.func51,Tryz.ntmps51
     go_wp2
     go_ret
     exact⟨by simp[h1,h2],rfl⟩
   . go_enter Tryz.func51,Tryz.ntmps51
     go_wp2
     go_ret
     exact⟨by simp[h2],rfl⟩
 . go_enter Tryz.func51,Tryz.ntmps51
   go_wp2
   go_ret
   exact⟨by simp;omega,rfl⟩
theorem RH (w:World):Calls Tryz.prog 102 #[] w fun e w'=>e=.returned (.int .i64 0)/\w'=w:=by
 go_enter Tryz.func102,Tryz.ntmps102
 go_wp2
 go_ret
 exact⟨rfl,rfl⟩
theorem Xr (w:World):Calls Tryz.prog 33 #[] w fun e w'=>e=.returned (.int .i64 1)/\w'=w:=by
 go_enter Tryz.func33,Tryz.ntmps33
 go_wp2
 go_ret
 exact⟨rfl,rfl⟩
theorem TS (i:Int) (w:World) (h0:0<=i) (h1:i<=1000000):Calls Tryz.prog 147 #[.int .i64 i] w fun e w'=>e=.returned (.int .i64 (2+i))/\w'=w:=by
 go_enter Tryz.func147,Tryz.ntmps147
 go_wp2
 go_ret
 exact⟨rfl,rfl⟩
theorem UB (i:Int) (w:World) (h0:0<=i) (h1:i<=1000000):Calls Tryz.prog 56 #[.int .i64 i] w fun e w'=>e=.returned (.int .i64 (6+i))/\w'=w:=by
 go_enter Tryz.func56,Tryz.ntmps56
 go_wp2
 go_ret
 exact⟨rfl,rfl⟩
theorem Y2 (t s k n g p r i:Int) (w:World) (h:Yr t s k n) (h0:0<=i) (h1:i<=1000000) :
 Calls Tryz.prog 35 #[.agg #[.int .i64 t,.int .i64 s,.int .i64 k,.int .i64 n,.int .i64 g,.int .i64 p,.int .i64 r],.int .i64 i] w fun e w'=>e=.returned (.int .i64 (6+t+i * 2))/\Below w.heap.size w w':=by
 obtain⟨t0,t1,s0,s1,k0,k1,n0,n1⟩:=h
 go_enter Tryz.func35,Tryz.ntmps35
 go_wp2_with (go_at_call 56;refine(UB _ _ (by omega) (by omega)).mono ?_;rintro e w' ⟨rfl,rfl⟩)
 go_ret
 exact⟨rfl,Z5 (Below.refl _ _) _⟩
theorem WG (t s k n g p r i:Int) (w:World) (h:Yr t s k n) (h0:0<=i) (h1:i<=1000000) :
 Calls Tryz.prog 73 #[.agg #[.int .i64 t,.int .i64 s,.int .i64 k,.int .i64 n,.int .i64 g,.int .i64 p,.int .i64 r],.int .i64 i] w fun e w'=>e=.returned (.int .i64 (6+t+s * 2+i * 3))/\Below w.heap.size w w':=by
 have hA:=h
 obtain⟨t0,t1,s0,s1,k0,k1,n0,n1⟩:=h
 go_enter Tryz.func73,Tryz.ntmps73
 go_wp2_with (go_at_call 35;refine(Y2 _ _ _ _ _ _ _ _ _ hA (by omega) (by omega)).mono ?_;rintro e w' ⟨rfl,b1⟩)
 go_ret
 exact⟨rfl,grow (Z5 (Below.refl _ _) _) b1⟩
structure XV (w:World) (b:Nat) (t s k n g p r:Int):Prop where
 c0:w.cell? ⟨b,0,none⟩=some (.int .i64 t)
 c1:w.cell? ⟨b,1,none⟩=some (.int .i64 s)
 c2:w.cell? ⟨b,2,none⟩=some (.int .i64 k)
 c3:w.cell? ⟨b,3,none⟩=some (.int .i64 n)
 c4:w.cell? ⟨b,4,none⟩=some (.int .i64 g)
 c5:w.cell? ⟨b,5,none⟩=some (.int .i64 p)
 c6:w.cell? ⟨b,6,none⟩=some (.int .i64 r)
theorem XV.new {w:World} {t s k n g p r:Int} {T:TypeId}:XV (w.alloc (.cells #[.int .i64 t,.int .i64 s,.int .i64 k,.int .i64 n,.int .i64 g,.int .i64 p,.int .i64 r] T)) w.heap.size t s k n g p r:=by
 constructor <;> simp
theorem XV.grown {w w':World} {b:Nat} {t s k n g p r:Int} (h:XV w b t s k n g p r) (h':Below w.heap.size w w'):XV w' b t s k n g p r :=
 ⟨keep' h' h.c0,keep' h' h.c1,keep' h' h.c2,keep' h' h.c3,keep' h' h.c4,keep' h' h.c5,keep' h' h.c6⟩
theorem WT (t s k n g p r i m:Int) (w:World) (h:Yr t s k n) (hm:i * n=m) (m0:0<=m) (m1:m<=1000000) :
 Calls Tryz.prog 52 #[.agg #[.int .i64 t,.int .i64 s,.int .i64 k,.int .i64 n,.int .i64 g,.int .i64 p,.int .i64 r],.int .i64 i] w fun e w'=>e=.returned (.int .i64 (6+t+s * 2+k * 3+m))/\Below w.heap.size w w':=by
 have hA:=h
 obtain⟨t0,t1,s0,s1,k0,k1,n0,n1⟩:=h
 go_enter Tryz.func52,Tryz.ntmps52
 go_wp2
 refine ZT (fun W=>XV W w.heap.size t s k n g p r/\Below w.heap.size w W) ⟨XV.new,Z5 (Below.refl _ _) _⟩ ?_
 rintro W ⟨hc,hb⟩
 have e0:=fun N:Later W=>(hc.grown N.below).c0
 have e1:=fun N:Later W=>(hc.grown N.below).c1
 have e2:=fun N:Later W=>(hc.grown N.below).c2
 have e3:=fun N:Later W=>(hc.grown N.below).c3
 have e4:=fun N:Later W=>(hc.grown N.below).c4
 have e5:=fun N:Later W=>(hc.grown N.below).c5
 have e6:=fun N:Later W=>(hc.grown N.below).c6
 haveI:=Later.exists W
 try simp only[iV]
 try simp only[pP]
 try simp only[eV]
 refine Zp (by kernel_rfl) (by kernel_rfl) ?_
 repeat (go_big_quiet_step ((go_at_call 73;exact Calls.later (WG _ _ _ _ _ _ _ _ _ hA (by omega) (by omega)))))
 refine wpQuiet_nil ?_
 rintro _ ⟨nq,rfl⟩
 go_wp2
 go_ret
 exact⟨rfl,grow hb nq.below⟩
theorem Gu (t s k n g p r m:Int) (w:World) (h:Yr t s k n) (hm:k * n=m) (m0:0<=m) (m1:m<=1000000) :
 Calls Tryz.prog 31 #[.agg #[.int .i64 t,.int .i64 s,.int .i64 k,.int .i64 n,.int .i64 g,.int .i64 p,.int .i64 r]] w fun e w'=>e=.returned (.int .i64 (6+t+s * 2+k * 3+m))/\Below w.heap.size w w':=by
 go_enter Tryz.func31,Tryz.ntmps31
 go_wp2_with (go_at_call 52;refine(WT _ _ _ _ _ _ _ _ _ _ h hm m0 m1).mono ?_;rintro e w' ⟨rfl,b1⟩)
 go_ret
 exact⟨rfl,grow (Z5 (Below.refl _ _) _) b1⟩
theorem Gt (t s k n g p r i:Int) (w:World) (h0:0<=i) (h1:i<=1000000) (h:i+1<s) :
 Calls Tryz.prog 37 #[.agg #[.int .i64 t,.int .i64 s,.int .i64 k,.int .i64 n,.int .i64 g,.int .i64 p,.int .i64 r],.int .i64 i] w fun e w'=>e=.returned (.int .i64 (i+1))/\Below w.heap.size w w':=by
 go_enter Tryz.func37,Tryz.ntmps37
 go_wp2
 go_ret
 exact⟨rfl,Z5 (Below.refl _ _) _⟩
theorem Jd (t s k n g p r i:Int) (w:World) (h0:0<=i) (h1:i<=1000000) (h:¬ i+1<s) :
 Calls Tryz.prog 37 #[.agg #[.int .i64 t,.int .i64 s,.int .i64 k,.int .i64 n,.int .i64 g,.int .i64 p,.int .i64 r],.int .i64 i] w fun e w'=>e=.returned (.int .i64 (-1))/\Below w.heap.size w w':=by
 go_enter Tryz.func37,Tryz.ntmps37
 go_wp2
 go_ret
 exact⟨rfl,Z5 (Below.refl _ _) _⟩
def ZI (z:Int):Int:=if z<1 then -1 else if z<=2 then 0 else if z<=4 then 1 else if z<=8 then 2 else if z<=16 then 3 else -1
theorem WI (z:Int) (w:World) :
 Calls Tryz.prog 119 #[.int .i64 z] w fun e w'=>e=.returned (.int .i64 (ZI z))/\w'=w:=by
 by_cases h:z<1
 . go_enter Tryz.func119,Tryz.ntmps119
   go_wp2
   go_ret
   exact⟨Zg (by simp[ZI,h]),rfl⟩
 . go_enter Tryz.func119,Tryz.ntmps119
   go_wp2
   go_loop [3,6] (fun _ i=>i=.int .i64 0\/(i=.int .i64 1/\2<z)\/(i=.int .i64 2/\4<z)\/(i=.int .i64 3/\8<z)\/(i=.int .i64 4/\16<z)) (fun _ i=>4 - (intOf i).toNat)
   case atStart=>exact Or.inl rfl
   case round =>
    rcases hrel with rfl | ⟨rfl,hz⟩ | ⟨rfl,hz⟩ | ⟨rfl,hz⟩ | ⟨rfl,hz⟩
    . by_cases h2:z<=2
      . go_wp2
        go_ret
        exact⟨Zg (by simp[ZI,h,h2]),rfl⟩
      . go_wp2
        go_round
        case rel=>exact Or.inr (Or.inl ⟨rfl,by omega⟩)
        case measure=>simp[intOf]
    . by_cases h2:z<=4
      . go_wp2
        go_ret
        exact⟨Zg (by unfold ZI;simp[h2];omega),rfl⟩
      . go_wp2
        go_round
        case rel=>exact Or.inr (Or.inr (Or.inl ⟨rfl,by omega⟩))
        case measure=>simp[intOf]
    . by_cases h2:z<=8
      . go_wp2
        go_ret
        exact⟨Zg (by unfold ZI;simp[h2];omega),rfl⟩
      . go_wp2
        go_round
        case rel=>exact Or.inr (Or.inr (Or.inr (Or.inl ⟨rfl,by omega⟩)))
        case measure=>simp[intOf]
    . by_cases h2:z<=16
      . go_wp2
        go_ret
        exact⟨Zg (by unfold ZI;simp[h2];omega),rfl⟩
      . go_wp2
        go_round
        case rel=>exact Or.inr (Or.inr (Or.inr (Or.inr ⟨rfl,by omega⟩)))
        case measure=>simp[intOf]
    . go_wp2
      go_ret
      exact⟨Zg (by unfold ZI;simp;omega),rfl⟩
theorem Jc (c:Int) (w:World) (h0:0<=c) (h1:c<=3) :
 Calls Tryz.prog 126 #[.int .i64 c] w fun e w'=>e=.returned (.int .i64 (2 * 2 ^ c.toNat+1))/\w'=w:=by
 have hcs:c=0\/c=1\/c=2\/c=3:=by omega
 rcases hcs with rfl | rfl | rfl | rfl
 all_goals
  go_enter Tryz.func126,Tryz.ntmps126
  go_wp2_with (go_at_call 51;refine(RI _ _ _ _).mono ?_;rintro e w' ⟨rfl,rfl⟩;rw[decide_eq_true (by omega)])
  go_ret
  exact⟨rfl,rfl⟩
def win (n a b:Int):Bool:=decide (a<=n/\n<=b)
def may (t s k n g p r:Int):Bool:=win t 1 8 && win s 1 65536 && win k 1 64 && win n 17 256 && win g 1 65535 && win p 0 1000 && win r 1 16
theorem seven:∀ a b c d e f g:Bool,a=false\/(a=true/\b=false)\/(a=true/\b=true/\c=false)\/(a=true/\b=true/\c=true/\d=false)\/(a=true/\b=true/\c=true/\d=true/\e=false) \/
 (a=true/\b=true/\c=true/\d=true/\e=true/\f=false)\/(a=true/\b=true/\c=true/\d=true/\e=true/\f=true/\g=false)\/(a=true/\b=true/\c=true/\d=true/\e=true/\f=true/\g=true):=by
 intro a b c d e f g
 cases a <;> cases b <;> cases c <;> cases d <;> cases e <;> cases f <;> cases g <;> simp
theorem Ja (t s k n g p r:Int) :
 win t 1 8=false\/(win t 1 8=true/\win s 1 65536=false)\/(win t 1 8=true/\win s 1 65536=true/\win k 1 64=false) \/
 (win t 1 8=true/\win s 1 65536=true/\win k 1 64=true/\win n 17 256=false) \/
 (win t 1 8=true/\win s 1 65536=true/\win k 1 64=true/\win n 17 256=true/\win g 1 65535=false) \/
 (win t 1 8=true/\win s 1 65536=true/\win k 1 64=true/\win n 17 256=true/\win g 1 65535=true/\win p 0 1000=false) \/
 (win t 1 8=true/\win s 1 65536=true/\win k 1 64=true/\win n 17 256=true/\win g 1 65535=true/\win p 0 1000=true/\win r 1 16=false) \/
 (win t 1 8=true/\win s 1 65536=true/\win k 1 64=true/\win n 17 256=true/\win g 1 65535=true/\win p 0 1000=true/\win r 1 16=true):=by
 exact seven _ _ _ _ _ _ _
theorem Yl (n a b:Int) (x:Bool) (hx:win n a b=x) (w:World) :
 Calls Tryz.prog 51 #[.int .i64 n,.int .i64 a,.int .i64 b] w fun e w'=>e=.returned (.bool x)/\w'=w:=by
 subst hx;exact RI n a b w
set_option maxHeartbeats 2000000 in
theorem RG (t s k n g p r:Int) (w:World) :
 Calls Tryz.prog 29 #[.agg #[.int .i64 t,.int .i64 s,.int .i64 k,.int .i64 n,.int .i64 g,.int .i64 p,.int .i64 r]] w fun e w'=>e=.returned (.bool (may t s k n g p r))/\Below w.heap.size w w':=by
 rcases Ja t s k n g p r with h1 | ⟨h1,h2⟩ | ⟨h1,h2,h3⟩ | ⟨h1,h2,h3,h4⟩ | ⟨h1,h2,h3,h4,h5⟩ | ⟨h1,h2,h3,h4,h5,h6⟩ | ⟨h1,h2,h3,h4,h5,h6,h7⟩ | ⟨h1,h2,h3,h4,h5,h6,h7⟩
 all_goals
  go_enter Tryz.func29,Tryz.ntmps29
  go_wp2_with (first
   | (go_at_call_of 51 (Value.int .i64 t);refine(Yl _ _ _ _ h1 _).mono ?_;rintro e w' ⟨rfl,rfl⟩)
   | (go_at_call_of 51 (Value.int .i64 s);refine(Yl _ _ _ _ h2 _).mono ?_;rintro e w' ⟨rfl,rfl⟩)
   | (go_at_call_of 51 (Value.int .i64 k);refine(Yl _ _ _ _ h3 _).mono ?_;rintro e w' ⟨rfl,rfl⟩)
   | (go_at_call_of 51 (Value.int .i64 n);refine(Yl _ _ _ _ h4 _).mono ?_;rintro e w' ⟨rfl,rfl⟩)
   | (go_at_call_of 51 (Value.int .i64 g);refine(Yl _ _ _ _ h5 _).mono ?_;rintro e w' ⟨rfl,rfl⟩)
   | (go_at_call_of 51 (Value.int .i64 p);refine(Yl _ _ _ _ h6 _).mono ?_;rintro e w' ⟨rfl,rfl⟩)
   | (go_at_call_of 51 (Value.int .i64 r);refine(Yl _ _ _ _ h7 _).mono ?_;rintro e w' ⟨rfl,rfl⟩))
  go_ret
  refine⟨?_,Z5 (Below.refl _ _) _⟩
  unfold may
  first
   | rw[h1,h2,h3,h4,h5,h6,h7];rfl
   | rw[h1,h2,h3,h4,h5,h6];rfl
   | rw[h1,h2,h3,h4,h5];rfl
   | rw[h1,h2,h3,h4];rfl
   | rw[h1,h2,h3];rfl
   | rw[h1,h2];rfl
   | rw[h1];rfl
end
end Go.Proofs.YtibmjlefcaonnaaGreat
