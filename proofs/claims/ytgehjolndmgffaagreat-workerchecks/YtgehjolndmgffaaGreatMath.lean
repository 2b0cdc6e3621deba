import Derived.WalkKit
import Derived.WalkSpells
import Derived.WalkLawsBesides
namespace Go.Proofs.YtgehjolndmgffaaGreat
open Go.RowKit
theorem Zi {k:IntKind} {a b:Int} (h:a=b):Ending.returned (.int k a)=.returned (.int k b):=by rw[h]
theorem pow_pos (n:Nat):1<=(2:Int) ^ n:=by
 have:(0:Int)<2 ^ n:=Int.pow_pos (by decide)
 omega
theorem Lu (n m:Nat) (h:n<=m):(2:Int) ^ n<=2 ^ m:=by
 obtain⟨k,rfl⟩:=Nat.exists_eq_add_of_le h
 rw[Int.pow_add]
 have h1:=pow_pos n
 have h2:=pow_pos k
 have:=Int.mul_le_mul_of_nonneg_left h2 (show (0:Int)<=2 ^ n by omega)
 simpa using this
theorem Ro (n:Nat) (h:n<64):(2:Int) ^ n<=9223372036854775808/\1<=(2:Int) ^ n :=
 ⟨by simpa using Lu n 63 (by omega),pow_pos n⟩
theorem BX (n:Nat) (h:n<64):IntKind.u64.wrap (IntKind.u64.wrap (2 ^ n) - 1)=2 ^ n - 1:=by
 have:=Ro n h
 rw[IntKind.wrap_u64,IntKind.wrap_u64]
 omega
def cut (n:Int) (b:Nat):Int:=if n<0 then 0 else if n<2 ^ b - 1 then n else 2 ^ b - 1
theorem ET (n:Int) (b:Nat):0<=cut n b:=by
 have:=pow_pos b
 unfold cut;split
 . omega
 . split <;> omega
theorem ES (n:Int) (b:Nat):cut n b<=2 ^ b - 1:=by
 have:=pow_pos b
 unfold cut;split
 . omega
 . split <;> omega
theorem Ze (n:Int) (b:Nat) (h0:0<=n) (h1:n<2 ^ b):cut n b=n:=by
 unfold cut;split
 . omega
 . split <;> omega
theorem BV (n:Int) (b:Nat) (h:n<0):cut n b=0:=by
 unfold cut;rw[if_pos h]
theorem Il (n:Int) (b:Nat) (h0:0<=n) (h:2 ^ b - 1<=n):cut n b=2 ^ b - 1:=by
 unfold cut;rw[if_neg (by omega),if_neg (by omega)]
theorem BQ (n:Int) (a b:Nat):0<=cut n b * 2 ^ a/\cut n b * 2 ^ a<=2 ^ (a+b) - 2 ^ a:=by
 have h1:=ET n b
 have h2:=ES n b
 have h3:=pow_pos a
 refine⟨Int.mul_nonneg h1 (by omega),?_⟩
 have h4:=Int.mul_le_mul_of_nonneg_right h2 (show (0:Int)<=2 ^ a by omega)
 have h5:((2:Int) ^ b - 1) * 2 ^ a=2 ^ (a+b) - 2 ^ a:=by
  rw[Int.sub_mul,<- Int.pow_add,Nat.add_comm b a];simp
 omega
theorem wrap_small (x:Int) (h0:0<=x) (h1:x<18446744073709551616):IntKind.u64.wrap x=x:=by
 rw[IntKind.wrap_u64];omega
theorem wC:(2:Int) ^ 64=18446744073709551616:=by decide
theorem put_eq (n:Int) (a b:Nat) (h:a+b<=64):IntKind.u64.wrap (cut n b * 2 ^ a)=cut n b * 2 ^ a:=by
 have h1:=BQ n a b
 have h2:=Lu (a+b) 64 h
 have h3:=pow_pos a
 rw[wC] at h2
 exact wrap_small _ h1.1 (by omega)
theorem NJ (x:Int) (b:Nat) (x0:0<=x) (x1:x<18446744073709551616) (hb:b<64):bits .and .u64 x (2 ^ b - 1)=x % 2 ^ b:=by
 have h:=Ro b hb
 rw[u64_and _ _ x0 x1 (by omega) (by omega)]
 have e:((2:Int) ^ b - 1).toNat=2 ^ b - 1:=by
  have:((2 ^ b:Nat):Int)=(2:Int) ^ b:=by simp
  omega
 rw[e,Nat.and_two_pow_sub_one_eq_mod]
 obtain⟨m,rfl⟩:=Int.eq_ofNat_of_zero_le x0
 simp
theorem get_eq (x:Int) (a b:Nat) (x0:0<=x) (x1:x<18446744073709551616) (hb:b<64) :
 wrap64 (bits .and .u64 (x / 2 ^ a) (2 ^ b - 1))=x / 2 ^ a % 2 ^ b:=by
 have h:=Ro b hb
 have ha:=pow_pos a
 have h0:0<=x / 2 ^ a:=Int.ediv_nonneg x0 (by omega)
 have h1:x / 2 ^ a<=x:=Int.ediv_le_self _ x0
 rw[NJ _ _ h0 (by omega) hb]
 have h2:=Int.emod_nonneg (x / 2 ^ a) (b:=2 ^ b) (by omega)
 have h3:=Int.emod_lt_of_pos (x / 2 ^ a) (b:=2 ^ b) (by omega)
 unfold wrap64
 omega
theorem EX (x c:Int) (k:Nat) (x0:0<=x) (x1:x<2 ^ k) (c0:0<=c) (h:c * 2 ^ k+2 ^ k<=18446744073709551616) :
 bits .or .u64 x (c * 2 ^ k)=x+c * 2 ^ k:=by
 have hk:=pow_pos k
 have hm:0<=c * 2 ^ k:=Int.mul_nonneg c0 (by omega)
 rw[u64_or _ _ x0 (by omega) hm (by omega)]
 obtain⟨m,rfl⟩:=Int.eq_ofNat_of_zero_le x0
 obtain⟨d,rfl⟩:=Int.eq_ofNat_of_zero_le c0
 have e:((d:Int) * 2 ^ k).toNat=2 ^ k * d:=by
  have:(((2 ^ k * d:Nat)):Int)=(d:Int) * 2 ^ k:=by push_cast;rw[Int.mul_comm]
  omega
 have hlt:m<2 ^ k:=by
  have:((2 ^ k:Nat):Int)=(2:Int) ^ k:=by simp
  omega
 rw[e]
 simp only[Int.toNat_natCast]
 rw[Nat.or_comm,<- Nat.two_pow_add_eq_or_of_lt hlt]
 push_cast
 rw[Int.mul_comm,Int.add_comm]
theorem Xg (x c m:Int) (k:Nat) (hm:m=2 ^ k) (x0:0<=x) (x1:x<m) (c0:0<=c) (h:c * m+m<=18446744073709551616) :
 bits .or .u64 x (c * m)=x+c * m:=by
 subst hm;exact EX x c k x0 x1 c0 h
theorem or_comm (x y:Int) (x0:0<=x) (x1:x<18446744073709551616) (y0:0<=y) (y1:y<18446744073709551616):bits .or .u64 x y=bits .or .u64 y x:=by
 rw[u64_or _ _ x0 x1 y0 y1,u64_or _ _ y0 y1 x0 x1,Nat.or_comm]
theorem Zf (n:Int) (b:Nat) (m:Int) (hm:(2:Int) ^ b=m):0<=cut n b/\cut n b<=m - 1:=by
 subst hm;exact⟨ET n b,ES n b⟩
theorem Lt (x m:Int) (k:Nat) (hm:m=2 ^ k) (hk:k<64) (x0:0<=x) (x1:x<=18446744073709551615) :
 (bits .and .u64 x m != 0)=decide (x / m % 2=1):=by
 show (!(bits .and .u64 x m == 0))=_
 subst hm
 have hp:=Ro k hk
 rw[u64_and _ _ x0 (by omega) (by omega) (by omega)]
 have h:=u64_bit_test_var x k x0 (by omega)
 rw[show min ((k:Int).toNat) 64=k from by omega,show ((2:Int) ^ k % 18446744073709551616)=2 ^ k from by omega,Int.toNat_natCast] at h
 by_cases h2:x / 2 ^ k % 2=1
 . have h3:¬ ((x.toNat &&& ((2:Int) ^ k).toNat:Nat):Int)=0:=fun h4=>h.1 h4 ⟨by omega,h2⟩
   simp[h2];simpa using h3
 . have h3:=h.2 fun h4=>h2 h4.2
   rw[h3];simp[h2]
def Zc (s g:Int):Int:=cut s 16+cut g 16 * 65536
def Zq (a b c d:Int):Int:=cut a 3+cut b 20 * 8+cut c 16 * 8388608+cut d 22 * 549755813888
def JA (a b c d:Int):Int:=cut a 2+cut b 6 * 4+cut c 20 * 256+cut d 36 * 268435456
def UN (a b c d:Int):Int:=cut a 2+cut b 16 * 4+cut c 16 * 262144+cut d 16 * 17179869184
def Zg (a b c d:Int) (o:Bool):Int:=if o then UN a b c d+1125899906842624 else UN a b c d
def XU (v:Int) (f:Bool) (d:Int):Int:=if f then cut v 40+cut d 22 * 1099511627776+9223372036854775808 else cut v 40
def Qo (s c:Int):Int:=cut s 17+cut c 36 * 131072
theorem RP (a b c d:Int):0<=Zq a b c d/\Zq a b c d<=2305843009213693951:=by
 have h1:=Zf a 3 _ rfl
 have h2:=Zf b 20 _ rfl
 have h3:=Zf c 16 _ rfl
 have h4:=Zf d 22 _ rfl
 unfold Zq;omega
theorem Ri (a b c d:Int):0<=UN a b c d/\UN a b c d<=1125899906842623:=by
 have h1:=Zf a 2 _ rfl
 have h2:=Zf b 16 _ rfl
 have h3:=Zf c 16 _ rfl
 have h4:=Zf d 16 _ rfl
 unfold UN;omega
theorem XC (a b c d:Int) (o:Bool):0<=Zg a b c d o/\Zg a b c d o<=2251799813685247:=by
 have h:=Ri a b c d
 unfold Zg;split <;> omega
theorem FH (v:Int) (f:Bool) (d:Int):0<=XU v f d/\XU v f d<=18446744073709551615:=by
 have h1:=Zf v 40 _ rfl
 have h2:=Zf d 22 _ rfl
 unfold XU;split <;> omega
theorem oJ (s g:Int):bits .or .u64 (cut s 16) (cut g 16 * 65536)=Zc s g:=by
 have h1:=Zf s 16 _ rfl
 have h2:=Zf g 16 _ rfl
 rw[Xg _ _ 65536 16 (by decide) (by omega) (by omega) (by omega) (by omega)];rfl
theorem oH (a b c d:Int):bits .or .u64 (bits .or .u64 (bits .or .u64 (cut a 3) (cut b 20 * 8)) (cut c 16 * 8388608)) (cut d 22 * 549755813888)=Zq a b c d:=by
 have h1:=Zf a 3 _ rfl
 have h2:=Zf b 20 _ rfl
 have h3:=Zf c 16 _ rfl
 have h4:=Zf d 22 _ rfl
 rw[Xg _ _ 8 3 (by decide) (by omega) (by omega) (by omega) (by omega),Xg _ _ 8388608 23 (by decide) (by omega) (by omega) (by omega) (by omega),Xg _ _ 549755813888 39 (by decide) (by omega) (by omega) (by omega) (by omega)];rfl
theorem oG (a b c d:Int):bits .or .u64 (bits .or .u64 (bits .or .u64 (cut a 2) (cut b 6 * 4)) (cut c 20 * 256)) (cut d 36 * 268435456)=JA a b c d:=by
 have h1:=Zf a 2 _ rfl
 have h2:=Zf b 6 _ rfl
 have h3:=Zf c 20 _ rfl
 have h4:=Zf d 36 _ rfl
 rw[Xg _ _ 4 2 (by decide) (by omega) (by omega) (by omega) (by omega),Xg _ _ 256 8 (by decide) (by omega) (by omega) (by omega) (by omega),Xg _ _ 268435456 28 (by decide) (by omega) (by omega) (by omega) (by omega)];rfl
theorem oD (a b c d:Int):bits .or .u64 (bits .or .u64 (bits .or .u64 (cut a 2) (cut b 16 * 4)) (cut c 16 * 262144)) (cut d 16 * 17179869184)=UN a b c d:=by
 have h1:=Zf a 2 _ rfl
 have h2:=Zf b 16 _ rfl
 have h3:=Zf c 16 _ rfl
 have h4:=Zf d 16 _ rfl
 rw[Xg _ _ 4 2 (by decide) (by omega) (by omega) (by omega) (by omega),Xg _ _ 262144 18 (by decide) (by omega) (by omega) (by omega) (by omega),Xg _ _ 17179869184 34 (by decide) (by omega) (by omega) (by omega) (by omega)];rfl
theorem wB (a b c d:Int):bits .or .u64 (UN a b c d) 1125899906842624=Zg a b c d true:=by
 have h:=Ri a b c d
 have e:=Xg (UN a b c d) 1 1125899906842624 50 (by decide) (by omega) (by omega) (by omega) (by omega)
 simpa [Zg] using e
theorem oC (v d:Int):bits .or .u64 (cut v 40) (bits .or .u64 9223372036854775808 (cut d 22 * 1099511627776))=XU v true d:=by
 have h1:=Zf v 40 _ rfl
 have h2:=Zf d 22 _ rfl
 rw[or_comm 9223372036854775808 _ (by omega) (by omega) (by omega) (by omega)]
 have e:=Xg (cut d 22 * 1099511627776) 1 9223372036854775808 63 (by decide) (by omega) (by omega) (by omega) (by omega)
 simp only[Int.one_mul] at e
 rw[e,show cut d 22 * 1099511627776+9223372036854775808=(cut d 22+8388608) * 1099511627776 from by omega,Xg _ _ 1099511627776 40 (by decide) (by omega) (by omega) (by omega) (by omega)]
 simp only[XU,if_true]
 omega
theorem oz (s c:Int):bits .or .u64 (cut s 17) (cut c 36 * 131072)=Qo s c:=by
 have h1:=Zf s 17 _ rfl
 have h2:=Zf c 36 _ rfl
 rw[Xg _ _ 131072 17 (by decide) (by omega) (by omega) (by omega) (by omega)];rfl
end Go.Proofs.YtgehjolndmgffaaGreat
