import Derived.Test.YtmnnhjhhhfabiaaGreatPlaceSee
import Derived.Test.YtmnnhjhhhfabiaaGreatLay
import Derived.Test.YtmnnhjhhhfabiaaGreatProg
import Derived.Test.YtmnnhjhhhfabiaaGreatMath
import Derived.Test.YtmnnhjhhhfabiaaGreatMovAt
import Derived.Test.YtmnnhjhhhfabiaaGreatMovTown
import Derived.Test.YtmnnhjhhhfabiaaGreatPolPick
namespace Go.Proofs.YtmnnhjhhhfabiaaGreat
open Go.RowKit
section
theorem Ak (x : Int) (x0 : 0 <= x) (x1 : x <= 18446744073709551615) : bits .and .u64 x 4294967295 = x % 4294967296 :=
 MH x 32 x0 (by omega) (by decide)
theorem Rk {a b : Int} (a0 : 0 <= a) (a1 : a <= 4294967295) (b0 : 0 <= b) (b1 : b <= 4294967295) : 0 <= a * b /\ a * b <= 18446744065119617025:=by
 refine ⟨Int.mul_nonneg a0 b0,?_⟩
 have:=Int.mul_le_mul a1 b1 b0 (by decide)
 omega
theorem rQ (x y : Int) (x0 : 0 <= x) (x1 : x <= 18446744073709551615) (y0 : 0 <= y) (y1 : y <= 18446744073709551615) :
 IntKind.u64.wrap (IntKind.u64.wrap (IntKind.u64.wrap (x / 4294967296 * (y / 4294967296)) + IntKind.u64.wrap (IntKind.u64.wrap (x / 4294967296 * bits .and .u64 y 4294967295) + IntKind.u64.wrap (bits .and .u64 x 4294967295 * bits .and .u64 y 4294967295) / 4294967296) / 4294967296) +
  IntKind.u64.wrap (bits .and .u64 (IntKind.u64.wrap (IntKind.u64.wrap (x / 4294967296 * bits .and .u64 y 4294967295) + IntKind.u64.wrap (bits .and .u64 x 4294967295 * bits .and .u64 y 4294967295) / 4294967296)) 4294967295 + IntKind.u64.wrap (bits .and .u64 x 4294967295 * (y / 4294967296))) / 4294967296) =
  x * y / 18446744073709551616:=by
 rw [Ak x x0 x1,Ak y y0 y1]
 obtain ⟨a,ha⟩ : ∃ a,x / 4294967296 = a:=⟨_,rfl⟩
 obtain ⟨b,hb⟩ : ∃ b,x % 4294967296 = b:=⟨_,rfl⟩
 obtain ⟨c,hc⟩ : ∃ c,y / 4294967296 = c:=⟨_,rfl⟩
 obtain ⟨d,hd⟩ : ∃ d,y % 4294967296 = d:=⟨_,rfl⟩
 have hx : x = a * 4294967296 + b:=by omega
 have hy : y = c * 4294967296 + d:=by omega
 have e : x * y = a * c * 18446744073709551616 + (a * d + b * c) * 4294967296 + b * d:=by rw [hx,hy];grind
 rw [ha,hb,hc,hd,e]
 have p1:=Rk (a:=a) (b:=c) (by omega) (by omega) (by omega) (by omega)
 have p2:=Rk (a:=a) (b:=d) (by omega) (by omega) (by omega) (by omega)
 have p3:=Rk (a:=b) (b:=c) (by omega) (by omega) (by omega) (by omega)
 have p4:=Rk (a:=b) (b:=d) (by omega) (by omega) (by omega) (by omega)
 generalize a * c = P1 at *
 generalize a * d = P2 at *
 generalize b * c = P3 at *
 generalize b * d = P4 at *
 clear e hx hy ha hb hc hd
 rw [wrap_small P1 (by omega) (by omega),wrap_small P2 (by omega) (by omega),wrap_small P3 (by omega) (by omega),wrap_small P4 (by omega) (by omega)]
 rw [wrap_small (P2 + P4 / 4294967296) (by omega) (by omega)]
 rw [Ak (P2 + P4 / 4294967296) (by omega) (by omega)]
 rw [wrap_small ((P2 + P4 / 4294967296) % 4294967296 + P3) (by omega) (by omega)]
 rw [wrap_small (P1 + (P2 + P4 / 4294967296) / 4294967296) (by omega) (by omega)]
 rw [wrap_small _ (by omega) (by omega)]
 omega
theorem rP (z : Int) : IntKind.u64.wrap z = z % 18446744073709551616:=by rw [IntKind.wrap_u64]
def upper (a b : Int) : Int:=a * b / 18446744073709551616
def lower (a b : Int) : Int:=a * b % 18446744073709551616
theorem Rn {a b : Int} (ha : Fit a) (hb : Fit b) : -85070591730234615865843651857942052864 <= a * b /\ a * b <= 85070591730234615865843651857942052864:=by
 obtain ⟨a0,a1⟩:=ha
 obtain ⟨b0,b1⟩:=hb
 have h1:=Int.natAbs_mul a b
 have h2 : a.natAbs <= 9223372036854775808:=by omega
 have h3 : b.natAbs <= 9223372036854775808:=by omega
 have h4:=Nat.mul_le_mul h2 h3
 omega
end
section
set_option maxHeartbeats 1000000
theorem EL (x y : Int) (x0 : 0 <= x) (x1 : x <= 18446744073709551615) (y0 : 0 <= y) (y1 : y <= 18446744073709551615) (w : World) :
 Calls Tryz.prog 203 #[.int .u64 x,.int .u64 y] w fun e w'=>e = .returned (.tuple #[.int .u64 (x * y / 18446744073709551616),.int .u64 (x * y % 18446744073709551616)]) /\ w' = w:=by
 go_enter Tryz.func203,Tryz.ntmps203
 go_wp2
 go_ret2
 refine ⟨?_,rfl⟩
 rw [<- rQ x y x0 x1 y0 y1,<- rP]
 rfl
theorem Au {a b : Int} (ha : Fit a) (hb : Fit b) (h1 : ¬ a < 0) (h2 : ¬ b < 0) : wrap64 (IntKind.u64.wrap a * IntKind.u64.wrap b / 18446744073709551616) = upper a b /\ IntKind.u64.wrap a * IntKind.u64.wrap b % 18446744073709551616 = lower a b:=by
 have hf:=Rn ha hb
 obtain ⟨a0,a1⟩:=ha
 obtain ⟨b0,b1⟩:=hb
 rw [wrap_small a (by omega) (by omega),wrap_small b (by omega) (by omega)]
 unfold upper lower wrap64
 generalize a * b = P at *
 omega
theorem TB {a : Int} (ha : Fit a) (h : a < 0) : IntKind.u64.wrap a = a + 18446744073709551616:=by
 obtain ⟨a0,a1⟩:=ha
 rw [IntKind.wrap_u64];omega
theorem LV {a : Int} (ha : Fit a) (h : ¬ a < 0) : IntKind.u64.wrap a = a:=by
 obtain ⟨a0,a1⟩:=ha
 rw [IntKind.wrap_u64];omega
theorem Ar {a b : Int} (ha : Fit a) (hb : Fit b) (h1 : a < 0) (h2 : ¬ b < 0) : wrap64 (wrap64 (IntKind.u64.wrap a * IntKind.u64.wrap b / 18446744073709551616) - b) = upper a b /\ IntKind.u64.wrap a * IntKind.u64.wrap b % 18446744073709551616 = lower a b:=by
 have hf:=Rn ha hb
 rw [TB ha h1,LV hb h2,Int.add_mul]
 obtain ⟨a0,a1⟩:=ha
 obtain ⟨b0,b1⟩:=hb
 unfold upper lower wrap64
 generalize a * b = P at *
 omega
theorem Aq {a b : Int} (ha : Fit a) (hb : Fit b) (h1 : ¬ a < 0) (h2 : b < 0) : wrap64 (wrap64 (IntKind.u64.wrap a * IntKind.u64.wrap b / 18446744073709551616) - a) = upper a b /\ IntKind.u64.wrap a * IntKind.u64.wrap b % 18446744073709551616 = lower a b:=by
 have hf:=Rn ha hb
 rw [LV ha h1,TB hb h2,Int.mul_add]
 obtain ⟨a0,a1⟩:=ha
 obtain ⟨b0,b1⟩:=hb
 unfold upper lower wrap64
 generalize a * b = P at *
 omega
theorem Ap {a b : Int} (ha : Fit a) (hb : Fit b) (h1 : a < 0) (h2 : b < 0) : wrap64 (wrap64 (wrap64 (IntKind.u64.wrap a * IntKind.u64.wrap b / 18446744073709551616) - b) - a) = upper a b /\ IntKind.u64.wrap a * IntKind.u64.wrap b % 18446744073709551616 = lower a b:=by
 have hf:=Rn ha hb
 rw [TB ha h1,TB hb h2,Int.add_mul,Int.mul_add]
 obtain ⟨a0,a1⟩:=ha
 obtain ⟨b0,b1⟩:=hb
 unfold upper lower wrap64
 generalize a * b = P at *
 omega
theorem Rl (a : Int) : 0 <= IntKind.u64.wrap a /\ IntKind.u64.wrap a <= 18446744073709551615:=by
 rw [IntKind.wrap_u64];omega
theorem RQ (a b : Int) (ha : Fit a) (hb : Fit b) (w : World) :
 Calls Tryz.prog 202 #[.int .i64 a,.int .i64 b] w fun e w'=>e = .returned (.tuple #[.int .i64 (upper a b),.int .u64 (lower a b)]) /\ w' = w:=by
 have M:=fun w=>EL (IntKind.u64.wrap a) (IntKind.u64.wrap b) (Rl a).1 (Rl a).2 (Rl b).1 (Rl b).2 w
 by_cases h1 : a < 0 <;> by_cases h2 : b < 0
 · have U:=Ap ha hb h1 h2
   have HU : Hid _:=U
   clear U
   go_enter Tryz.func202,Tryz.ntmps202
   go_wp2_with (go_at_call 203;refine (M _).mono ?_;rintro e w1 ⟨rfl,rfl⟩)
   go_ret2
   obtain ⟨U1,U2⟩:=HU.out
   rw [<- U1,<- U2];exact ⟨rfl,rfl⟩
 · have U:=Ar ha hb h1 h2
   have HU : Hid _:=U
   clear U
   go_enter Tryz.func202,Tryz.ntmps202
   go_wp2_with (go_at_call 203;refine (M _).mono ?_;rintro e w1 ⟨rfl,rfl⟩)
   go_ret2
   obtain ⟨U1,U2⟩:=HU.out
   rw [<- U1,<- U2];exact ⟨rfl,rfl⟩
 · have U:=Aq ha hb h1 h2
   have HU : Hid _:=U
   clear U
   go_enter Tryz.func202,Tryz.ntmps202
   go_wp2_with (go_at_call 203;refine (M _).mono ?_;rintro e w1 ⟨rfl,rfl⟩)
   go_ret2
   obtain ⟨U1,U2⟩:=HU.out
   rw [<- U1,<- U2];exact ⟨rfl,rfl⟩
 · have U:=Au ha hb h1 h2
   have HU : Hid _:=U
   clear U
   go_enter Tryz.func202,Tryz.ntmps202
   go_wp2_with (go_at_call 203;refine (M _).mono ?_;rintro e w1 ⟨rfl,rfl⟩)
   go_ret2
   obtain ⟨U1,U2⟩:=HU.out
   rw [<- U1,<- U2];exact ⟨rfl,rfl⟩
theorem yx (a b x y : Int) : (a * b < x * y) ↔ (upper a b < upper x y \/ upper a b = upper x y /\ lower a b < lower x y):=by
 unfold upper lower
 generalize a * b = P
 generalize x * y = R
 omega
theorem Am (a b x y : Int) (ha : Fit a) (hb : Fit b) (hx : Fit x) (hy : Fit y) (w : World) :
 Calls Tryz.prog 201 #[.int .i64 a,.int .i64 b,.int .i64 x,.int .i64 y] w fun e w'=>e = .returned (.bool (decide (a * b < x * y))) /\ w' = w:=by
 have C1:=fun w=>RQ a b ha hb w
 have C2:=fun w=>RQ x y hx hy w
 have E:=yx a b x y
 generalize upper a b = A at *
 generalize lower a b = B at *
 generalize upper x y = C at *
 generalize lower x y = D at *
 by_cases h1 : A < C
 · have hd : decide (a * b < x * y) = true:=decide_eq_true (E.2 (Or.inl h1))
   have HD : Hid _:=hd
   clear hd E
   go_enter Tryz.func201,Tryz.ntmps201
   go_wp2_with (first
    | (go_at_call_of 202 (Value.int IntKind.i64 a);refine (C1 _).mono ?_;rintro e w1 ⟨rfl,rfl⟩)
    | (go_at_call_of 202 (Value.int IntKind.i64 x);refine (C2 _).mono ?_;rintro e w1 ⟨rfl,rfl⟩))
   go_ret
   rw [HD.out];exact ⟨rfl,rfl⟩
 · by_cases h2 : A = C
   · subst h2
     by_cases h3 : B < D
     · have hd : decide (a * b < x * y) = true:=decide_eq_true (E.2 (Or.inr ⟨rfl,h3⟩))
       have HD : Hid _:=hd
       clear hd E
       go_enter Tryz.func201,Tryz.ntmps201
       go_wp2_with (first
        | (go_at_call_of 202 (Value.int IntKind.i64 a);refine (C1 _).mono ?_;rintro e w1 ⟨rfl,rfl⟩)
        | (go_at_call_of 202 (Value.int IntKind.i64 x);refine (C2 _).mono ?_;rintro e w1 ⟨rfl,rfl⟩))
       go_ret
       rw [HD.out];exact ⟨rfl,rfl⟩
     · have hd : decide (a * b < x * y) = false:=decide_eq_false (fun h=>by have:=E.1 h;omega)
       have hq : decide (B < D) = false:=decide_eq_false h3
       have HD : Hid _:=hd
       clear hd E
       go_enter Tryz.func201,Tryz.ntmps201
       go_wp2_with (first
        | (go_at_call_of 202 (Value.int IntKind.i64 a);refine (C1 _).mono ?_;rintro e w1 ⟨rfl,rfl⟩)
        | (go_at_call_of 202 (Value.int IntKind.i64 x);refine (C2 _).mono ?_;rintro e w1 ⟨rfl,rfl⟩))
       go_ret
       rw [HD.out];exact ⟨rfl,rfl⟩
   · have hd : decide (a * b < x * y) = false:=decide_eq_false (fun h=>by have:=E.1 h;omega)
     have hq : decide (A < C) = false:=decide_eq_false h1
     have hq2 : (A == C) = false:=by simpa using h2
     have HD : Hid _:=hd
     clear hd E
     go_enter Tryz.func201,Tryz.ntmps201
     go_wp2_with (first
      | (go_at_call_of 202 (Value.int IntKind.i64 a);refine (C1 _).mono ?_;rintro e w1 ⟨rfl,rfl⟩)
      | (go_at_call_of 202 (Value.int IntKind.i64 x);refine (C2 _).mono ?_;rintro e w1 ⟨rfl,rfl⟩))
     go_ret
     rw [HD.out];exact ⟨rfl,rfl⟩
end
section
structure Sn where
 st : Int
 cl : Int
 us : Int
 sm : Int
 lv : Int
 op : Bool
def TS (q : Sn) : Prop:=Fit q.st /\ Fit q.cl /\ Fit q.us /\ Fit q.sm /\ Fit q.lv
def Sn.may (sp : Int) (q : Sn) : Bool:=decide (q.st = 1 /\ q.op = false /\ 0 < q.us /\ (q.lv = 0 \/ 1000 * q.lv < sp * q.us))
set_option maxHeartbeats 1000000 in
theorem Iz (c0 c1 c2 c3 c4 sp c6 : Int) (hp : Fit sp) (q : Sn) (hq : TS q) (w : World) :
 Calls Tryz.prog 194 #[.agg #[iV c0,iV c1,iV c2,iV c3,iV c4,iV sp,iV c6],.agg #[iV q.st,iV q.cl,iV q.us,iV q.sm,iV q.lv,.bool q.op]] w fun e w'=>e = .returned (.bool (q.may sp)) /\ Below w.heap.size w w':=by
 obtain ⟨st,cl,us,sm,lv,op⟩:=q
 obtain ⟨f1,f2,f3,f4,f5⟩:=hq
 simp only at *
 have L:=fun w=>Am 1000 lv sp us (by unfold Fit;omega) f5 hp f3 w
 obtain ⟨m,hm⟩ : ∃ m,Sn.may sp ⟨st,cl,us,sm,lv,op⟩ = m:=⟨_,rfl⟩
 rw [hm]
 have HM : Hid (Sn.may sp ⟨st,cl,us,sm,lv,op⟩ = m):=hm
 unfold Sn.may at hm
 simp only at hm
 by_cases h1 : st = 1
 · have h1' : (st != 1) = false:=by simpa using h1
   have H1 : Hid (st = 1):=h1
   cases op with
   | true =>
    obtain rfl : m = false:=by rw [<- hm];simp
    clear hm h1
    go_enter Tryz.func194,Tryz.ntmps194
    go_wp2
    go_ret
    exact ⟨rfl,Z5 (Z5 (Below.refl _ _) _) _⟩
   | false =>
    by_cases h2 : 0 < us
    · have h2' : decide (us <= 0) = false:=decide_eq_false (by omega)
      by_cases h3 : lv = 0
      · have h3' : (lv == 0) = true:=by simpa using h3
        obtain rfl : m = true:=by rw [<- hm];simp [h1,h2,h3]
        clear hm h1 h3
        go_enter Tryz.func194,Tryz.ntmps194
        go_wp2
        go_ret
        exact ⟨rfl,Z5 (Z5 (Below.refl _ _) _) _⟩
      · have h3' : (lv == 0) = false:=by simpa using h3
        obtain rfl : decide (1000 * lv < sp * us) = m:=by rw [<- hm];simp [h1,h2,h3]
        clear hm h1 h3
        go_enter Tryz.func194,Tryz.ntmps194
        go_wp2_with (go_at_call 201;refine (L _).mono ?_;rintro e w1 ⟨rfl,rfl⟩)
        go_ret
        exact ⟨rfl,Z5 (Z5 (Below.refl _ _) _) _⟩
    · have h2' : decide (us <= 0) = true:=decide_eq_true (by omega)
      obtain rfl : m = false:=by rw [<- hm];simp [h2]
      clear hm h1
      go_enter Tryz.func194,Tryz.ntmps194
      go_wp2
      go_ret
      exact ⟨rfl,Z5 (Z5 (Below.refl _ _) _) _⟩
 · have h1' : (st != 1) = true:=by simpa using h1
   obtain rfl : m = false:=by rw [<- hm];simp [h1]
   clear hm h1
   go_enter Tryz.func194,Tryz.ntmps194
   go_wp2
   go_ret
   exact ⟨rfl,Z5 (Z5 (Below.refl _ _) _) _⟩
end
section
structure Zt where
 q : Q
 ep : Int
 pn : Nat -> Int
 si : Nat -> Int
structure YQ (t n k m : Nat) (s : Mm) (σ : Nat) (z : Zt) : Prop where
 tw : Zm t n k m s σ z.q
 ep : s.wd 0 = z.ep
 pn : ∀ j,j < t -> s.wd (6 + j) = z.pn j
 si : ∀ i,i < k -> s.wd (Zr t n i + 2) = z.si i
 Jd : ∀ a,Wd (z.q.dw a)
 uZ : ∀ i,i < k -> 0 <= z.si i
def Sj (mb : Nat -> Bool) (v : Nat -> Int) : Nat -> Int
 | 0=>-1
 | n + 1=>if mb n = true /\ (Sj mb v n < 0 \/ v n < v (Sj mb v n).toNat) then n else Sj mb v n
theorem OE (mb : Nat -> Bool) (v : Nat -> Int) (n : Nat) : Pick n mb v (Sj mb v n):=by
 induction n with
 | zero=>exact Pick.none0 _ _
 | succ n ih=>exact ih.more
def LC : Sn:=⟨0,0,0,0,0,false⟩
def choice (sp : Int) (l : List Sn) : Int:=Sj (fun i=>(l[i]?.getD LC).may sp) (fun i=>(l[i]?.getD LC).lv) l.length
structure Wk where
 ev : Nat
 lf : Nat
 fr : Nat
 mv : Nat
 rd : Nat
inductive Cm where
 | see (l : List Sn)
 | cnt (l : List Sn) (c : Ck)
 | opn (l : List Sn) (κ : Nat)
 | shut (i : Nat) (c : Ck)
 | head (i : Nat) (c : Ck) (u : Nat)
 | OO (i : Nat) (c : Ck) (u : Nat) (W : Mw) (μ : Mv)
 | leave (i : Nat) (c : Ck)
 | note (i : Nat) (c : Ck) (E : Int)
 | quiet (i : Nat) (c : Ck)
 | Yf (d : Ad)
 | Y5 (i : Nat) (d : Se)
structure Cp where
 cm : Cm
 wk : Wk
 ah : Wk
 Uz : Nat
def cp0 : Cp:=⟨.see [],⟨0,0,0,0,0⟩,⟨0,0,0,0,0⟩,0⟩
def Sn.ck (q : Sn) : Ck:=⟨q.st.toNat,q.cl.toNat,q.us.toNat,q.sm.toNat⟩
def Ck.sn (c : Ck) (v : Int) : Sn:=⟨c.st,c.cl,c.us,c.sp,v,false⟩
def Zt.lay (z : Zt) (i : Nat) (c : Ck) : Zt:={ z with q:={ z.q with y:=⟨upd z.q.y.ck i c,z.q.y.op⟩ } }
def mark (y : Y) (l : List Sn) (κ : Nat) : List Sn :=
 match y.op κ with
 | 0=>l
 | j + 1=>match l[j]? with
  | none=>l
  | some q=>if q.cl = κ then l.set j { q with op:=true } else l
def chosen (sp : Int) (l : List Sn) : Cm:=if choice sp l < 0 then .Yf .first else .shut (choice sp l).toNat (l[(choice sp l).toNat]?.getD LC).ck
def LD (v : Int) (A i : Nat) (tr : Int) : Mw:=⟨A,i,Ws v,(ZM (Ws v)).toNat,(v / 262144 % 65536).toNat,(v / 17179869184 % 65536).toNat,VV v,tr⟩
def Wv (t n k m i : Nat) (z : Zt) : Se -> Zt × Se
 | .see=>(z,if (z.q.y.ck i).st = 3 then .ask (z.q.y.ck i) else .over false)
 | .ask c=>(z,.look c (z.si i))
 | .look c S=>(z,if S + 2 <= z.ep then .clear c 0 else .over false)
 | .clear c j=>if j < c.us then ({ z with q:={ z.q with dw:=upd z.q.dw (base t n k m i + j) 0 } },.clear c (j + 1)) else ({ z with q:={ z.q with lv:=upd z.q.lv i 0,db:=upd z.q.db i 0 } },.free c)
 | .free c=>(z.lay i ⟨0,0,0,c.sp + 1⟩,.over true)
 | .over x=>(z,.over x)
def SY (t : Nat) (z : Zt) : Ad -> Zt × Ad
 | .first=>(z,.ask z.ep 0)
 | .ask E j=>if j < t then (z,if Wj (z.pn j) E = true then .over false else .ask E (j + 1)) else (if z.ep = E then { z with ep:=sum64 E 1 } else z,.over (decide (z.ep = E)))
 | .over x=>(z,.over x)
def VL (cp : Cp) (i : Nat) (c : Ck) (u : Nat) (W : Mw) (μ : Mv) : Cp :=
 match μ with
 | .over ou _=>if ou = 1 then { cp with cm:=.head i c (u + room c.cl),wk:={ cp.wk with mv:=cp.wk.mv + 1 } } else if ou = 2 then { cp with cm:=.head i c (u + room c.cl) } else { cp with cm:=.leave i c }
 | _=>{ cp with cm:=.OO i c u W μ }
theorem Uy (cp : Cp) (i : Nat) (c : Ck) (u : Nat) (W : Mw) {μ : Mv} (h : μ.Zy = false) : VL cp i c u W μ = { cp with cm:=.OO i c u W μ }:=by
 cases μ with
 | over=>cases h
 | _=>rfl
def Cp.Xb (cp : Cp) : Cp:=⟨.see [],{ cp.wk with rd:=cp.wk.rd + 1 },{ cp.wk with rd:=cp.wk.rd + 1 },if cp.wk.ev = cp.ah.ev /\ cp.wk.mv = cp.ah.mv /\ cp.wk.fr = cp.ah.fr then cp.Uz + 1 else 0⟩
def Za (k i : Nat) (cp : Cp) (x : Bool) : Cp :=
 if i + 1 < k then { cp with cm:=.Y5 (i + 1) .see,wk:=if x = true then { cp.wk with fr:=cp.wk.fr + 1 } else cp.wk }
 else ({ cp with wk:=if x = true then { cp.wk with fr:=cp.wk.fr + 1 } else cp.wk } : Cp).Xb
def Zf (t n k m : Nat) (sp tr : Int) (z : Zt) (cp : Cp) : Zt × Cp :=
 match cp.cm with
 | .see l=>(z,{ cp with cm:=.cnt l (z.q.y.ck l.length) })
 | .cnt l c=>(z,{ cp with cm:=if l.length + 1 < k then .see (l ++ [c.sn ((z.q.lv l.length : Int) - z.q.db l.length)]) else .opn (l ++ [c.sn ((z.q.lv l.length : Int) - z.q.db l.length)]) 0 })
 | .opn l κ=>(z,{ cp with cm:=if κ < 3 then .opn (mark z.q.y l κ) (κ + 1) else chosen sp (mark z.q.y l κ) })
 | .shut i c=>if z.q.y.ck i = c then (z.lay i ⟨2,c.cl,c.us,c.sp + 1⟩,{ cp with cm:=.head i ⟨2,c.cl,c.us,c.sp + 1⟩ 0 }) else (z,{ cp with cm:=.Yf .first })
 | .head i c u=>if c.us <= u then (z,{ cp with cm:=.note i c z.ep }) else
  let v:=z.q.dw (base t n k m i + u)
  (z,{ cp with cm:=if v % 4 = 3 then .head i c (u + room c.cl) else if v % 4 = 2 then .OO i c u (LD v (base t n k m i + u) i tr) (.see .see 0) else .leave i c })
 | .OO i c u W μ=>({ z with q:=(Yo W k m (base t n k m) z.q μ).1 },VL cp i c u W (Yo W k m (base t n k m) z.q μ).2)
 | .leave i c=>(z.lay i ⟨1,c.cl,c.us,c.sp + 1⟩,{ cp with cm:=.Yf .first,wk:={ cp.wk with lf:=cp.wk.lf + 1 } })
 | .note i c E=>({ z with si:=upd z.si i E },{ cp with cm:=.quiet i c })
 | .quiet i c=>(z.lay i ⟨3,c.cl,c.us,c.sp + 1⟩,{ cp with cm:=.Yf .first,wk:={ cp.wk with ev:=cp.wk.ev + 1 } })
 | .Yf d=>((SY t z d).1,{ cp with cm:=if (SY t z d).2.Zy = true then .Y5 0 .see else .Yf (SY t z d).2 })
 | .Y5 i d=>((Wv t n k m i z d).1,if (Wv t n k m i z d).2.Zy = true then Za k i cp (Wv t n k m i z d).2.freed else { cp with cm:=.Y5 i (Wv t n k m i z d).2 })
def Cm.at (t n k m : Nat) : Cm -> Nat
 | .see l=>Zr t n l.length
 | .cnt l _=>Zr t n l.length + 1
 | .opn _ κ=>2 + κ
 | .shut i _=>Zr t n i
 | .head i c u=>if c.us <= u then 0 else base t n k m i + u
 | .OO _ _ _ W μ=>μ.at t n W
 | .leave i _=>Zr t n i
 | .note i _ _=>Zr t n i + 2
 | .quiet i _=>Zr t n i
 | .Yf .first=>0
 | .Yf (.ask _ j)=>if j < t then 6 + j else 0
 | .Yf (.over _)=>0
 | .Y5 i .see=>Zr t n i
 | .Y5 i (.ask _)=>Zr t n i + 2
 | .Y5 _ (.look _ _)=>0
 | .Y5 i (.clear c j)=>if j < c.us then base t n k m i + j else Zr t n i + 1
 | .Y5 i (.free _)=>Zr t n i
 | .Y5 _ (.over _)=>0
def Xa (σ : Nat) (q : Sn) : Prop:=TS q /\ ∃ c : Ck,c.ok σ /\ q.st = c.st /\ q.cl = c.cl /\ q.us = c.us /\ q.sm = c.sp
theorem Xa.up {σ σ' : Nat} (h : σ <= σ') {q : Sn} (k : Xa σ q) : Xa σ' q:=⟨k.1,k.2.imp fun _ e=>⟨e.1.up h,e.2⟩⟩
theorem Xa.ck {σ : Nat} {q : Sn} (k : Xa σ q) : q.ck.ok σ /\ q.st = q.ck.st /\ q.cl = q.ck.cl /\ q.us = q.ck.us /\ q.sm = q.ck.sp:=by
 obtain ⟨-,c,hc,h1,h2,h3,h4⟩:=k
 obtain ⟨st,cl,us,sm,lv,op⟩:=q
 simp only at h1 h2 h3 h4
 subst h1 h2 h3 h4
 have e : Sn.ck ⟨c.st,c.cl,c.us,c.sp,lv,op⟩ = c:=by obtain ⟨a1,a2,a3,a4⟩:=c;simp [Sn.ck]
 rw [e]
 exact ⟨hc,rfl,rfl,rfl,rfl⟩
theorem Ck.xZ {σ : Nat} {c : Ck} (h : c.ok σ) (hσ : σ <= 100000000) {v : Int} (h0 : -100000000 <= v) (h1 : v <= 100000000) : Xa σ (c.sn v):=by
 obtain ⟨q1,q2,q3,q4⟩:=h
 exact ⟨⟨⟨by simp only [Ck.sn];omega,by simp only [Ck.sn];omega⟩,⟨by simp only [Ck.sn];omega,by simp only [Ck.sn];omega⟩,⟨by simp only [Ck.sn];omega,by simp only [Ck.sn];omega⟩,⟨by simp only [Ck.sn];omega,by simp only [Ck.sn];omega⟩,⟨by simp only [Ck.sn];omega,by simp only [Ck.sn];omega⟩⟩,c,⟨q1,q2,q3,q4⟩,rfl,rfl,rfl,rfl⟩
theorem Xa.mark {σ : Nat} {y : Y} {l : List Sn} {κ : Nat} (h : ∀ q ∈ l,Xa σ q) : ∀ q ∈ mark y l κ,Xa σ q:=by
 unfold Go.Proofs.YtmnnhjhhhfabiaaGreat.mark
 split
 · exact h
 · rename_i j _
   split
   · exact h
   · rename_i q hq
     split
     · intro x hx
       rcases List.mem_or_eq_of_mem_set hx with hx | rfl
       · exact h x hx
       · exact h q (List.mem_of_getElem? hq)
     · exact h
theorem TU (y : Y) (l : List Sn) (κ : Nat) : (mark y l κ).length = l.length:=by
 unfold mark
 split
 · rfl
 · split
   · rfl
   · split
     · rw [List.length_set]
     · rfl
def Cm.good (t n k m σ : Nat) (tr : Int) (z : Zt) : Cm -> Prop
 | .see l=>l.length < k /\ ∀ q ∈ l,Xa σ q
 | .cnt l c=>l.length < k /\ (∀ q ∈ l,Xa σ q) /\ c.ok σ /\ z.q.db l.length <= 1000000
 | .opn l κ=>l.length = k /\ κ < 4 /\ ∀ q ∈ l,Xa σ q
 | .shut i c=>i < k /\ c.ok σ
 | .head i c u=>i < k /\ c.ok σ /\ c.us <= m /\ (u < c.us -> z.q.dw (base t n k m i + u) % 4 = 2 -> (LD (z.q.dw (base t n k m i + u)) (base t n k m i + u) i tr).ok t n k m /\ u + Ws (z.q.dw (base t n k m i + u)) < c.us) /\ u <= 1000
 | .OO i c u W μ=>i < k /\ c.ok σ /\ c.us <= m /\ u <= 900 /\ W.ok t n k m /\ W.tr = tr /\ μ.good t n k m σ W z.q /\ μ.Zy = false
 | .leave i c=>i < k /\ c.ok σ
 | .note i c E=>i < k /\ c.ok σ /\ 0 <= E
 | .quiet i c=>i < k /\ c.ok σ
 | .Yf d=>d.Zy = false
 | .Y5 i d=>i < k /\ d.good m /\ d.Zy = false
def Wk.le (w : Wk) (N : Nat) : Prop:=w.ev <= N /\ w.lf <= N /\ w.fr <= N /\ w.mv <= N /\ w.rd <= N
end
section
section
variable {t n k m : Nat} {s : Mm} {σ : Nat} {z : Zt}
theorem Zm.away {q : Q} (h : Zm t n k m s σ q) (hσ : σ < 1000000) (who : Int) (a : Nat) (v : Int) (h1 : a ≠ 1) (h2 : ¬ (2 <= a /\ a < 6)) (h3 : ¬ (6 + t <= a /\ a < 6 + t + n * 2)) (h4 : ∀ i,i < k -> a ≠ 6 + t + n * 2 + i * 3 /\ a ≠ 6 + t + n * 2 + i * 3 + 1) (h5 : a < 6 + t + n * 2 + k * 3) (hv : a = 0 -> Wd v) : Zm t n k m ((s.by who).step a v) (σ + 1) q:=by
 refine ⟨h.pile.off hσ who a v h1 (fun i hi=>by omega),h.YN.off hσ who a v h2 (fun i hi=>(h4 i hi).1),fun i hi=>?_,fun i hi=>?_,fun x hx=>?_,h.KU,fun b hb=>?_,?_⟩
 · rw [Zm.ZC who a _ v (fun e=>(h4 i hi).2 e.symm)];exact h.KW i hi
 · have:=h.LJ i hi;omega
 · rw [Zm.ZC who a _ v (by omega)];exact h.Qj x hx
 · rw [Zm.ZC who a _ v (by omega)];exact h.LH b hb
 · by_cases e : a = 0
   · subst e;rw [Zm.WZ];exact hv rfl
   · rw [Zm.ZC who a _ v (fun h=>e h.symm)];exact h.ep
theorem Zm.zero {q : Q} (h : Zm t n k m s σ q) (hσ : σ < 1000000) (who : Int) {i : Nat} (hi : i < k) : Zm t n k m ((s.by who).step (6 + t + n * 2 + i * 3 + 1) 0) (σ + 1) { q with lv:=upd q.lv i 0,db:=upd q.db i 0 }:=by
 refine ⟨h.pile.off hσ who _ _ (by omega) (fun x hx=>by omega),h.YN.off hσ who _ _ (by omega) (fun j hj=>by omega),fun j hj=>?_,fun j hj=>?_,fun x hx=>?_,h.KU,fun b hb=>?_,?_⟩
 · show _ = Ub (upd q.lv i 0 j) (upd q.db i 0 j)
   by_cases e : j = i
   · subst e;rw [Zm.WZ,upd_same,upd_same];rfl
   · rw [Zm.ZC who _ _ _ (by omega),Z7 _ _ _ _ e,Z7 _ _ _ _ e];exact h.KW j hj
 · show upd q.lv i 0 j <= 17 * (σ + 1)
   by_cases e : j = i
   · subst e;rw [upd_same];omega
   · rw [Z7 _ _ _ _ e];have:=h.LJ j hj;omega
 · rw [Zm.ZC who _ _ _ (by omega)];exact h.Qj x hx
 · rw [Zm.ZC who _ _ _ (by omega)];exact h.LH b hb
 · rw [Zm.ZC who _ _ _ (by omega)];exact h.ep
namespace YQ
theorem len (h : YQ t n k m s σ z) : s.n = 6 + t + n * 2 + k * 3 + k * m:=h.tw.len
theorem le (h : YQ t n k m s σ z) : ZR t n k m <= s.n:=by rw [h.len];exact Nat.le_refl _
theorem ni (h : YQ t n k m s σ z) : Wd z.ep:=by rw [<- h.ep];exact h.tw.ep
theorem rest (h : YQ t n k m s σ z) (who : Int) (a : Nat) (v : Int) (h0 : a ≠ 0) (hp : ¬ (6 <= a /\ a < 6 + t)) (hc : ∀ i,i < k -> a ≠ Zr t n i + 2) {q' : Q} (hq : Zm t n k m ((s.by who).step a v) (σ + 1) q') (hd : ∀ b,Wd (q'.dw b)) : YQ t n k m ((s.by who).step a v) (σ + 1) { z with q:=q' } :=
 ⟨hq,(Zm.ZC who a 0 v (fun e=>h0 e.symm)).trans h.ep,fun j hj=>(Zm.ZC who a _ v (by omega)).trans (h.pn j hj),fun i hi=>(Zm.ZC who a _ v (fun e=>hc i hi e.symm)).trans (h.si i hi),hd,h.uZ⟩
theorem same (h : YQ t n k m s σ z) (hσ : σ < 1000000) (who : Int) (a : Nat) : YQ t n k m ((s.by who).step a (s.wd a)) (σ + 1) z:=by
 have e : ((s.by who).step a (s.wd a)).wd = s.wd:=UA _ _
 exact ⟨h.tw.same hσ who a,by rw [e];exact h.ep,fun j hj=>by rw [e];exact h.pn j hj,fun i hi=>by rw [e];exact h.si i hi,h.Jd,h.uZ⟩
theorem lays (h : YQ t n k m s σ z) (hσ : σ < 1000000) (who : Int) {a : Nat} (ha : 6 + t + n * 2 + k * 3 <= a) {v : Int} (hv : Wd v) : YQ t n k m ((s.by who).step a v) (σ + 1) { z with q:={ z.q with dw:=upd z.q.dw a v } } :=
 h.rest who a v (by omega) (by omega) (fun i hi=>by unfold Zr;omega) (h.tw.lays hσ who ha v) (SQ h.Jd _ hv)
theorem chunk (h : YQ t n k m s σ z) (hσ : σ < 1000000) (who : Int) {i : Nat} (hi : i < k) (c : Ck) (hc : c.ok (σ + 1)) : YQ t n k m ((s.by who).step (Zr t n i) c.w) (σ + 1) (z.lay i c) :=
 h.rest who _ _ (by unfold Zr;omega) (by unfold Zr;omega) (fun j hj=>by unfold Zr;omega) (h.tw.chunks hσ who (κ:=0) (by decide) _ _ (Or.inr ⟨i,hi,rfl⟩) (h.tw.YN.lay hσ who hi c hc)) h.Jd
theorem zero (h : YQ t n k m s σ z) (hσ : σ < 1000000) (who : Int) {i : Nat} (hi : i < k) : YQ t n k m ((s.by who).step (Zr t n i + 1) 0) (σ + 1) { z with q:={ z.q with lv:=upd z.q.lv i 0,db:=upd z.q.db i 0 } } :=
 h.rest who _ _ (by unfold Zr;omega) (by unfold Zr;omega) (fun j hj=>by unfold Zr;omega) (h.tw.zero hσ who hi) h.Jd
theorem since (h : YQ t n k m s σ z) (hσ : σ < 1000000) (who : Int) {i : Nat} (hi : i < k) {E : Int} (hE : 0 <= E) : YQ t n k m ((s.by who).step (Zr t n i + 2) E) (σ + 1) { z with si:=upd z.si i E }:=by
 refine ⟨h.tw.away hσ who _ _ (by unfold Zr;omega) (by unfold Zr;omega) (by unfold Zr;omega) (fun j hj=>by unfold Zr;omega) (by unfold Zr;omega) (by unfold Zr;omega),(Zm.ZC who _ 0 _ (by unfold Zr;omega)).trans h.ep,fun j hj=>(Zm.ZC who _ _ _ (by unfold Zr;omega)).trans (h.pn j hj),fun j hj=>?_,h.Jd,fun j hj=>?_⟩
 · show _ = upd z.si i E j
   by_cases e : j = i
   · subst e;rw [Zm.WZ,upd_same]
   · rw [Zm.ZC who _ _ _ (by unfold Zr;omega),Z7 _ _ _ _ e];exact h.si j hj
 · show 0 <= upd z.si i E j
   by_cases e : j = i
   · subst e;rw [upd_same];exact hE
   · rw [Z7 _ _ _ _ e];exact h.uZ j hj
theorem tY (h : YQ t n k m s σ z) (hσ : σ < 1000000) (ht : 0 < k) (who : Int) {E : Int} (hE : Wd E) : YQ t n k m ((s.by who).step 0 E) (σ + 1) { z with ep:=E } :=
 ⟨h.tw.away hσ who _ _ (by omega) (by omega) (by omega) (fun j hj=>by omega) (by omega) (fun _=>hE),Zm.WZ _ _ _,fun j hj=>(Zm.ZC who _ _ _ (by omega)).trans (h.pn j hj),fun i hi=>(Zm.ZC who _ _ _ (by unfold Zr;omega)).trans (h.si i hi),h.Jd,h.uZ⟩
end YQ
theorem DR (a b : Int) : Wd (sum64 a b):=by unfold sum64 Wd;omega
theorem zx (h : YQ t n k m s σ z) (hσ : σ < 1000000) (hk : 0 < k) (who : Int) {d : Ad} (ho : d.Zy = false) {s' : Mm} {d' : Ad} (ht : SN t who s d = (s',d')) :
 YQ t n k m s' (σ + 1) (SY t z d).1 /\ d' = (SY t z d).2 /\ ∃ v,s' = (s.by who).step (Cm.at t n k m (.Yf d)) v:=by
 cases d with
 | over x=>cases ho
 | first =>
  obtain ⟨rfl,rfl⟩:=Prod.mk.inj ht
  exact ⟨h.same hσ who 0,by rw [h.ep];rfl,_,rfl⟩
 | ask E j =>
  simp only [SN] at ht
  by_cases hj : j < t
  · rw [if_pos hj] at ht
    obtain ⟨rfl,rfl⟩:=Prod.mk.inj ht
    refine ⟨?_,?_,s.wd (6 + j),?_⟩
    · simp only [SY,if_pos hj];exact h.same hσ who _
    · simp only [SY,if_pos hj,h.pn j hj]
    · simp only [Cm.at,if_pos hj]
  · rw [if_neg hj] at ht
    obtain ⟨rfl,rfl⟩:=Prod.mk.inj ht
    have e : (s.by who).wd 0 = z.ep:=h.ep
    refine ⟨?_,?_,?_⟩
    · simp only [SY,if_neg hj]
      unfold Mm.Xj
      by_cases he : z.ep = E
      · rw [if_pos (e.trans he),if_pos he]
        exact h.tY hσ hk who (DR _ _)
      · rw [if_neg (fun q=>he (e.symm.trans q)),if_neg he]
        exact h.same hσ who 0
    · simp only [SY,if_neg hj,h.ep]
    · simp only [Cm.at,if_neg hj]
      unfold Mm.Xj
      split
      · exact ⟨_,rfl⟩
      · exact ⟨_,rfl⟩
theorem zu (h : YQ t n k m s σ z) (hσ : σ < 1000000) {i : Nat} (hi : i < k) (who : Int) {d : Se} (hg : d.good m) (ho : d.Zy = false) (hsp : ∀ c,d = .free c -> c.sp <= σ) {s' : Mm} {d' : Se} (ht : QY t n k m i who (z.q.y.ck i) s d = (s',d')) :
 YQ t n k m s' (σ + 1) (Wv t n k m i z d).1 /\ d' = (Wv t n k m i z d).2 /\ ∃ v,s' = (s.by who).step (Cm.at t n k m (.Y5 i d)) v:=by
 have hck : s.wd (Zr t n i) = (z.q.y.ck i).w:=h.tw.YN.LG i hi
 have hbs : tX t n k m i = base t n k m i:=rfl
 have hba : 6 + t + n * 2 + k * 3 <= base t n k m i:=by unfold base;omega
 cases d with
 | over x=>cases ho
 | see =>
  obtain ⟨rfl,rfl⟩:=Prod.mk.inj ht
  refine ⟨?_,rfl,_,rfl⟩
  have:=h.same hσ who (Zr t n i)
  rw [hck] at this
  exact this
 | ask c =>
  obtain ⟨rfl,rfl⟩:=Prod.mk.inj ht
  exact ⟨h.same hσ who _,by rw [h.si i hi];rfl,_,rfl⟩
 | look c S =>
  obtain ⟨rfl,rfl⟩:=Prod.mk.inj ht
  exact ⟨h.same hσ who _,by rw [h.ep];rfl,_,rfl⟩
 | clear c j =>
  simp only [QY] at ht
  by_cases hj : j < c.us
  · rw [if_pos hj] at ht
    obtain ⟨rfl,rfl⟩:=Prod.mk.inj ht
    refine ⟨?_,?_,0,?_⟩
    · simp only [Wv,if_pos hj]
      rw [hbs]
      exact h.lays hσ who (by omega) ⟨by decide,by decide⟩
    · simp only [Wv,if_pos hj]
    · simp only [Cm.at,if_pos hj];rfl
  · rw [if_neg hj] at ht
    obtain ⟨rfl,rfl⟩:=Prod.mk.inj ht
    refine ⟨?_,?_,0,?_⟩
    · simp only [Wv,if_neg hj];exact h.zero hσ who hi
    · simp only [Wv,if_neg hj]
    · simp only [Cm.at,if_neg hj]
 | free c =>
  obtain ⟨rfl,rfl⟩:=Prod.mk.inj ht
  have:=hsp c rfl
  exact ⟨h.chunk hσ who hi _ ⟨by simp,by simp,by simp,by simp only;omega⟩,rfl,_,rfl⟩
theorem tV {W : Mw} (hW : W.ok t n k m) {q : Q} {μ : Mv} (hg : μ.good t n k m σ W q) (ho : μ.Zy = false) : μ.at t n W ≠ 0 /\ ¬ (6 <= μ.at t n W /\ μ.at t n W < 6 + t) /\ ∀ i,i < k -> μ.at t n W ≠ Zr t n i + 2:=by
 have hx:=hW.x1
 have hi:=hW.ik
 have k4:=hW.k4
 obtain ⟨u,hu,hA⟩:=hW.ad
 have dat : ∀ a,6 + t + n * 2 + k * 3 <= a -> a ≠ 0 /\ ¬ (6 <= a /\ a < 6 + t) /\ ∀ i,i < k -> a ≠ Zr t n i + 2:=fun a ha=>⟨by omega,by omega,fun i hi=>by unfold Zr;omega⟩
 have slt : 6 + t + W.x * 2 ≠ 0 /\ ¬ (6 <= 6 + t + W.x * 2 /\ 6 + t + W.x * 2 < 6 + t) /\ ∀ i,i < k -> 6 + t + W.x * 2 ≠ Zr t n i + 2:=⟨by omega,by omega,fun i hi=>by unfold Zr;omega⟩
 have oU : 6 + t + n * 2 + k * 3 <= W.A:=by rw [hA];unfold base;omega
 have cp : ∀ {a i : Nat},UI t n k m W.κ a i -> 6 + t + n * 2 + k * 3 <= a:=fun {a i} C=>by
  obtain ⟨u,hu,e⟩:=C.ad
  rw [e];unfold base;omega
 cases μ with
 | see τ f=>exact slt
 | place v τ f =>
  rcases Pl.at_in (t:=t) (n:=n) hg.1 with e | ⟨j,hj,e⟩
  · show τ.at t n W.κ ≠ 0 /\ _
    simp only [Mv.at]
    rw [e]
    exact ⟨by omega,by omega,fun i hi=>by unfold Zr;omega⟩
  · simp only [Mv.at]
    rw [e]
    exact ⟨by omega,by omega,fun i hi=>by unfold Zr;omega⟩
 | head v a i f=>exact dat _ (cp hg.1)
 | mark v a i f=>exact slt
 | load v a i j f=>exact dat _ (by simp only [Mv.at];omega)
 | freeze v c a i j f=>exact dat _ (by simp only [Mv.at];omega)
 | copy v c a i j f=>exact dat _ (by have:=cp hg.1;simp only [Mv.at];omega)
 | shw v a i f=>exact slt
 | ready a i=>exact dat _ (cp hg)
 | grow a i =>
  have:=hg.1.ik
  exact ⟨by simp only [Mv.at];omega,by simp only [Mv.at];omega,fun j hj=>by simp only [Mv.at];unfold Zr;omega⟩
 | fall a i=>exact ⟨by simp only [Mv.at];omega,by simp only [Mv.at];omega,fun j hj=>by simp only [Mv.at];unfold Zr;omega⟩
 | TV o a i=>exact dat _ (cp hg)
 | over o τ=>cases ho
end
end
end Go.Proofs.YtmnnhjhhhfabiaaGreat
