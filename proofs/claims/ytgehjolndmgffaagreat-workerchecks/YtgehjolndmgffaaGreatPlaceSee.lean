import Derived.Test.YtgehjolndmgffaaGreatMath
import Derived.Test.YtgehjolndmgffaaGreatBox
import Derived.Test.YtgehjolndmgffaaGreatStruct
namespace Go.Proofs.YtgehjolndmgffaaGreat
open Go.RowKit
section
theorem Cb (n m:Int) (b:Nat) (hb:b<63) (hm:m=2 ^ b - 1):bits .and .i64 n m=n % (m+1):=by
 subst hm
 have hp:=Ro b (by omega)
 have hp2:(2:Int) ^ b<=4611686018427387904:=by simpa using Lu b 62 (by omega)
 have hd:(2:Int) ^ b ∣ 18446744073709551616:=by
  have:(2:Int) ^ 64=2 ^ b * 2 ^ (64 - b):=by rw[<- Int.pow_add];congr 1;omega
  exact⟨2 ^ (64 - b),by rw[<- this];decide⟩
 have e1:(BitVec.ofInt 64 ((2:Int) ^ b - 1)).toNat=2 ^ b - 1:=by
  rw[BitVec.toNat_ofInt]
  have:((2 ^ b:Nat):Int)=(2:Int) ^ b:=by simp
  rw[Int.emod_eq_of_lt (by omega) (by simp;omega)]
  omega
 have e2:(((BitVec.ofInt 64 n).toNat:Nat):Int)=n % 18446744073709551616:=by
  rw[BitVec.toNat_ofInt]
  simp only[Nat.reducePow]
  omega
 show IntKind.i64.wrap (((BitVec.ofInt 64 n &&& BitVec.ofInt 64 (2 ^ b - 1)).toNat:Nat):Int)=_
 rw[BitVec.toNat_and,e1,Nat.and_two_pow_sub_one_eq_mod]
 have e3:(((BitVec.ofInt 64 n).toNat % 2 ^ b:Nat):Int)=n % 2 ^ b:=by
  push_cast
  rw[e2,Int.emod_emod_of_dvd _ hd]
 rw[e3,show (2:Int) ^ b - 1+1=2 ^ b from by omega,IntKind.wrap_i64]
 have h1:=Int.emod_nonneg n (b:=2 ^ b) (by omega)
 have h2:=Int.emod_lt_of_pos n (b:=2 ^ b) (by omega)
 omega
end
section
theorem E5 (t s len j:Nat):(Mm.laid t s len j).wd 1=1:=by
 induction j with
 | zero=>rfl
 | succ j ih =>
  show upd (upd (Mm.laid t s len j).wd _ _) _ _ 1=1
  unfold upd
  rw[if_neg (by omega),if_neg (by omega)]
  exact ih
theorem IW (t s len j i:Nat) (h:i<j):(Mm.laid t s len j).wd (6+t+i * 2)=8388608:=by
 induction j with
 | zero=>omega
 | succ j ih =>
  show upd (upd (Mm.laid t s len j).wd _ _) _ _ (6+t+i * 2)=_
  unfold upd
  rw[if_neg (by omega)]
  by_cases hij:i=j
  . rw[if_pos (by omega)]
  . rw[if_neg (by omega)];exact ih (by omega)
theorem Iu (t s len j i:Nat) (h:i<j):(Mm.laid t s len j).wd (6+t+i * 2+1)=Va s i:=by
 induction j with
 | zero=>omega
 | succ j ih =>
  show upd (upd (Mm.laid t s len j).wd _ _) _ _ (6+t+i * 2+1)=_
  unfold upd
  by_cases hij:i=j
  . rw[if_pos (by omega),hij]
  . rw[if_neg (by omega),if_neg (by omega)];exact ih (by omega)
theorem X5 (t s len j a:Nat) (h1:a≠1) (h:a<6+t\/6+t+j * 2<=a):(Mm.laid t s len j).wd a=0:=by
 induction j with
 | zero =>
  show upd (fun _=>(0:Int)) 1 1 a=0
  unfold upd
  rw[if_neg h1]
 | succ j ih =>
  show upd (upd (Mm.laid t s len j).wd _ _) _ _ a=0
  unfold upd
  rw[if_neg (by omega),if_neg (by omega)]
  exact ih (by omega)
theorem uq (x m:Int) (b c:Nat) (hb:b<63) (hm:m=2 ^ b - 1):∃ y:Nat,(c:Int)+bits .and .i64 x m=(y:Int)/\c<=y/\(y:Int)<=c+m:=by
 have h:=Cb x m b hb hm
 have hp:=pow_pos b
 have h1:=Int.emod_nonneg x (b:=m+1) (by omega)
 have h2:=Int.emod_lt_of_pos x (b:=m+1) (by omega)
 exact⟨c+(x % (m+1)).toNat,by rw[h];omega,by omega,by omega⟩
end
section
structure Ck where
 st:Nat
 cl:Nat
 us:Nat
 sp:Nat
 deriving DecidableEq
def Ck.w (c:Ck):Int:=(c.st:Int)+(c.cl:Int) * 4+(c.us:Int) * 256+(c.sp:Int) * 268435456
structure Ck.ok (c:Ck) (σ:Nat):Prop where
 st:c.st<=3
 cl:c.cl<=3
 us:c.us<=1000
 sp:c.sp<=σ
theorem Ck.ok.up {c:Ck} {σ σ':Nat} (h:c.ok σ) (hs:σ<=σ'):c.ok σ':=⟨h.st,h.cl,h.us,Nat.le_trans h.sp hs⟩
theorem Ck.inj {c d:Ck} {σ σ':Nat} (h:c.ok σ) (h':d.ok σ') (e:c.w=d.w):c=d:=by
 obtain⟨a1,a2,a3,a4⟩:=c
 obtain⟨b1,b2,b3,b4⟩:=d
 obtain⟨h1,h2,h3,h4⟩:=h
 obtain⟨g1,g2,g3,g4⟩:=h'
 simp only[Ck.w] at e h1 h2 h3 h4 g1 g2 g3 g4
 have:a1=b1/\a2=b2/\a3=b3/\a4=b4:=by omega
 obtain⟨rfl,rfl,rfl,rfl⟩:=this
 rfl
theorem UC (c:Ck) (σ:Nat) (h:c.ok σ) (hσ:σ<=2000000) (w:World) :
 Calls Tryz.prog 174 #[.int .u64 c.w] w fun e w'=>e=.returned (.agg #[iV c.st,iV c.cl,iV c.us,iV c.sp])/\Below w.heap.size w w':=by
 obtain⟨h1,h2,h3,h4⟩:=h
 have k:=Hm c.w w (by unfold Ck.w;omega) (by unfold Ck.w;omega)
 have e1:c.w % 4=(c.st:Int):=by unfold Ck.w;omega
 have e2:c.w / 4 % 64=(c.cl:Int):=by unfold Ck.w;omega
 have e3:c.w / 256 % 1048576=(c.us:Int):=by unfold Ck.w;omega
 have e4:c.w / 268435456 % 68719476736=(c.sp:Int):=by unfold Ck.w;omega
 rwa [e1,e2,e3,e4] at k
theorem Q7 (c:Ck) (σ:Nat) (h:c.ok σ) (hσ:σ<=2000000) (x1 x2 x3 x4:Int) (e1:x1=c.st) (e2:x2=c.cl) (e3:x3=c.us) (e4:x4=c.sp) (w:World) :
 Calls Tryz.prog 175 #[.agg #[iV x1,iV x2,iV x3,iV x4]] w fun e w'=>e=.returned (.int .u64 c.w)/\Below w.heap.size w w':=by
 obtain⟨h1,h2,h3,h4⟩:=h
 subst e1 e2 e3 e4
 have k:=OZ (c.st:Int) c.cl c.us c.sp w ⟨by omega,by omega⟩ ⟨by omega,by omega⟩ ⟨by omega,by omega⟩ ⟨by omega,by omega⟩
 have e:JA (c.st:Int) c.cl c.us c.sp=c.w:=by
  unfold JA Ck.w
  rw[Ze _ 2 (by omega) (by simp;omega),Ze _ 6 (by omega) (by simp;omega),Ze _ 20 (by omega) (by simp;omega),Ze _ 36 (by omega) (by simp;omega)]
 rwa [e] at k
def room:Nat->Nat
 | 0=>3
 | 1=>5
 | 2=>9
 | _=>17
theorem Yg (κ:Nat):3<=room κ/\room κ<=17:=by
 match κ with
 | 0=>simp[room]
 | 1=>simp[room]
 | 2=>simp[room]
 | _+3=>simp[room]
theorem VJ (κ:Nat) (h:κ<4) (w:World):Calls Tryz.prog 151 #[iV κ] w fun e w'=>e=.returned (iV (room κ))/\w'=w:=by
 have k:=Iy (κ:Int) w (by omega) (by omega)
 have e:2 * 2 ^ ((κ:Int)).toNat+1=((room κ:Nat):Int):=by
  match κ,h with
  | 0,_=>rfl
  | 1,_=>rfl
  | 2,_=>rfl
  | 3,_=>rfl
 rwa [e] at k
structure Y where
 ck:Nat->Ck
 op:Nat->Nat
structure XG (t n k m:Nat) (s:Mm) (σ:Nat) (y:Y):Prop where
 len:s.n=6+t+n * 2+k * 3+k * m
 st:s.steps=σ
 CX:∀ i,i<k->s.wd (6+t+n * 2+i * 3)=(y.ck i).w
 yA:∀ c,c<4->s.wd (2+c)=(y.op c:Int)
 ok:∀ i,i<k->(y.ck i).ok σ
 yB:∀ c,c<4->y.op c<=k
def Kept (t n k:Nat) (s s':Mm):Prop:=s'.n=s.n/\∀ a,¬ (2<=a/\a<6)->(∀ i,i<k->a≠6+t+n * 2+i * 3)->s'.wd a=s.wd a
namespace XG
variable {t n k m:Nat} {s:Mm} {σ:Nat} {y:Y}
theorem Xk (_:XG t n k m s σ y) (hσ:σ<1000000):wrap64 ((σ:Int)+1)=((σ+1:Nat):Int):=by
 unfold wrap64;omega
theorem same (h:XG t n k m s σ y) (hσ:σ<1000000) (who:Int) (a:Nat):XG t n k m ((s.by who).step a (s.wd a)) (σ+1) y:=by
 have e:((s.by who).step a (s.wd a)).wd=s.wd:=Vg _ _
 refine⟨h.len,?_,fun i hi=>by rw[e];exact h.CX i hi,fun c hc=>by rw[e];exact h.yA c hc,fun i hi=>(h.ok i hi).up (by omega),h.yB⟩
 show wrap64 (s.steps+1)=_
 rw[h.st,h.Xk hσ]
theorem lay (h:XG t n k m s σ y) (hσ:σ<1000000) (who:Int) {i:Nat} (hi:i<k) (c:Ck) (hc:c.ok (σ+1)):XG t n k m ((s.by who).step (6+t+n * 2+i * 3) c.w) (σ+1) ⟨upd y.ck i c,y.op⟩:=by
 refine⟨h.len,?_,fun j hj=>?_,fun κ hκ=>?_,fun j hj=>?_,h.yB⟩
 . show wrap64 (s.steps+1)=_
   rw[h.st,h.Xk hσ]
 . show upd s.wd _ _ _=(upd y.ck i c j).w
   by_cases e:j=i
   . subst e;rw[upd_same,upd_same]
   . rw[ZX _ _ _ _ (by omega),ZX _ _ _ _ e];exact h.CX j hj
 . show upd s.wd _ _ _=_
   rw[ZX _ _ _ _ (by omega)];exact h.yA κ hκ
 . show (upd y.ck i c j).ok (σ+1)
   by_cases e:j=i
   . subst e;rw[upd_same];exact hc
   . rw[ZX _ _ _ _ e];exact(h.ok j hj).up (by omega)
theorem opens (h:XG t n k m s σ y) (hσ:σ<1000000) (who:Int) {κ:Nat} (hκ:κ<4) (x:Nat) (hx:x<=k):XG t n k m ((s.by who).step (2+κ) (x:Int)) (σ+1) ⟨y.ck,upd y.op κ x⟩:=by
 refine⟨h.len,?_,fun j hj=>?_,fun c hc=>?_,fun j hj=>(h.ok j hj).up (by omega),fun c hc=>?_⟩
 . show wrap64 (s.steps+1)=_
   rw[h.st,h.Xk hσ]
 . show upd s.wd _ _ _=_
   rw[ZX _ _ _ _ (by omega)];exact h.CX j hj
 . show upd s.wd _ _ _=((upd y.op κ x c:Nat):Int)
   by_cases e:c=κ
   . subst e;rw[upd_same,upd_same]
   . rw[ZX _ _ _ _ (by omega),ZX _ _ _ _ e];exact h.yA c hc
 . show upd y.op κ x c<=k
   by_cases e:c=κ
   . subst e;rw[upd_same];exact hx
   . rw[ZX _ _ _ _ e];exact h.yB c hc
end XG
theorem YW (t n k:Nat) (s:Mm) (who:Int) (a:Nat):Kept t n k s ((s.by who).step a (s.wd a)) :=
 ⟨rfl,fun x _ _=>congrFun (Vg s.wd a) x⟩
theorem Q5 (t n k:Nat) (s:Mm) (who:Int) {i:Nat} (hi:i<k) (v:Int):Kept t n k s ((s.by who).step (6+t+n * 2+i * 3) v) :=
 ⟨rfl,fun x _ h=>ZX s.wd _ x v (h i hi)⟩
theorem KI (t n k:Nat) (s:Mm) (who:Int) {κ:Nat} (hκ:κ<4) (v:Int):Kept t n k s ((s.by who).step (2+κ) v) :=
 ⟨rfl,fun x h _=>ZX s.wd _ x v (by omega)⟩
def Y.new:Y:=⟨fun _=>⟨0,0,0,0⟩,fun _=>0⟩
theorem Hl (t s len j:Nat) (hj:j<=65536):(Mm.laid t s len j).steps=((1+2 * j:Nat):Int):=by
 induction j with
 | zero=>show wrap64 (0+1)=_;unfold wrap64;omega
 | succ j ih =>
  show wrap64 (wrap64 ((Mm.laid t s len j).steps+1)+1)=_
  rw[ih (by omega)]
  unfold wrap64;omega
theorem xh (t n k m:Nat) (hn:n<=65536):XG t n k m (Mm.laid t n (ZI t n k m) n) (1+2 * n) Y.new:=by
 refine⟨by rw[Mm.Pm];rfl,Hl _ _ _ _ hn,fun i hi=>?_,fun c hc=>?_,fun i _=>?_,fun c _=>Nat.zero_le _⟩
 . rw[X5 _ _ _ _ _ (by omega) (Or.inr (by omega))];simp[Y.new,Ck.w]
 . rw[X5 _ _ _ _ _ (by omega) (Or.inl (by omega))];simp[Y.new]
 . exact⟨Nat.zero_le _,Nat.zero_le _,Nat.zero_le _,Nat.zero_le _⟩
inductive Pl where
 | see
 | ask (i:Nat)
 | grow (i:Nat) (c:Ck)
 | look (sn i:Nat)
 | take (sn i:Nat) (c:Ck)
 | opn (sn i:Nat) (c:Ck)
 | Tc (sn i:Nat) (c:Ck)
 | XO (a i:Nat)
 | none
def Pl.over:Pl->Bool
 | .XO _ _=>true
 | .none=>true
 | _=>false
def Tu (k sn i:Nat):Pl:=if i<k then .look sn i else .none
def turn (k m κ:Nat) (bs:Nat->Nat) (y:Y):Pl->Y × Pl
 | .see=>(y,match y.op κ with | 0=>Tu k 0 0 | i+1=>.ask i)
 | .ask i=>(y,if (y.ck i).st=1/\(y.ck i).cl=κ/\(y.ck i).us+room κ<=m then .grow i (y.ck i) else Tu k (i+1) 0)
 | .grow i c=>if y.ck i=c then (⟨upd y.ck i ⟨c.st,c.cl,c.us+room κ,c.sp⟩,y.op⟩,.XO (bs i+c.us) i) else (y,.see)
 | .look sn i=>(y,if (y.ck i).st=0 then .take sn i (y.ck i) else Tu k sn (i+1))
 | .take sn i c=>if y.ck i=c then (⟨upd y.ck i ⟨1,κ,0,c.sp+1⟩,y.op⟩,.opn sn i ⟨1,κ,0,c.sp+1⟩) else (y,Tu k sn (i+1))
 | .opn sn i c=>if y.op κ=sn then (⟨y.ck,upd y.op κ (i+1)⟩,.see) else (y,.Tc sn i c)
 | .Tc _ i c=>if y.ck i=c then (⟨upd y.ck i ⟨0,0,0,c.sp+1⟩,y.op⟩,.see) else (y,.see)
 | τ=>(y,τ)
def Pl.good (k m κ σ:Nat):Pl->Prop
 | .see=>True
 | .ask i=>i<k
 | .grow i c=>i<k/\c.ok σ/\c.st=1/\c.cl=κ/\c.us+room κ<=m
 | .look sn i=>i<k/\sn<=k
 | .take sn i c=>i<k/\sn<=k/\c.ok σ/\c.st=0
 | .opn sn i c=>i<k/\sn<=k/\c.ok σ/\c.st=1/\c.cl=κ/\c.us=0
 | .Tc sn i c=>i<k/\sn<=k/\c.ok σ/\c.st=1/\c.cl=κ/\c.us=0
 | .XO _ _=>True
 | .none=>True
theorem Uz {k m κ σ sn i:Nat} (hs:sn<=k):(Tu k sn i).good k m κ σ:=by
 unfold Tu
 split
 . exact⟨by assumption,hs⟩
 . trivial
def Pl.at (t n κ:Nat):Pl->Nat
 | .ask i=>6+t+n * 2+i * 3
 | .grow i _=>6+t+n * 2+i * 3
 | .look _ i=>6+t+n * 2+i * 3
 | .take _ i _=>6+t+n * 2+i * 3
 | .Tc _ i _=>6+t+n * 2+i * 3
 | _=>2+κ
theorem Pl.good.up {k m κ σ σ':Nat} (hs:σ<=σ') {τ:Pl} (h:τ.good k m κ σ):τ.good k m κ σ':=by
 cases τ with
 | see=>trivial
 | ask i=>exact h
 | grow i c=>exact⟨h.1,h.2.1.up hs,h.2.2⟩
 | look sn i=>exact h
 | take sn i c=>exact⟨h.1,h.2.1,h.2.2.1.up hs,h.2.2.2⟩
 | opn sn i c=>exact⟨h.1,h.2.1,h.2.2.1.up hs,h.2.2.2⟩
 | Tc sn i c=>exact⟨h.1,h.2.1,h.2.2.1.up hs,h.2.2.2⟩
 | XO a i=>trivial
 | none=>trivial
theorem Ho {k m κ σ:Nat} {bs:Nat->Nat} {y:Y} {τ:Pl} (hκ:κ<4) (hok:∀ i,i<k->(y.ck i).ok σ) (hop:∀ c,c<4->y.op c<=k) (h:τ.good k m κ σ):(turn k m κ bs y τ).2.good k m κ (σ+1):=by
 cases τ with
 | see =>
  have h1:=hop κ hκ
  simp only[turn]
  split
  . exact Uz (Nat.zero_le _)
  . rename_i i e
    show i<k
    omega
 | ask i =>
  have hi:i<k:=h
  simp only[turn]
  split
  . rename_i e
    exact⟨hi,(hok i hi).up (by omega),e⟩
  . exact Uz hi
 | grow i c =>
  simp only[turn]
  split <;> trivial
 | look sn i =>
  simp only[turn]
  split
  . rename_i e
    exact⟨h.1,h.2,(hok i h.1).up (by omega),e⟩
  . exact Uz h.2
 | take sn i c =>
  have hs:=h.2.2.1.sp
  simp only[turn]
  split
  . exact⟨h.1,h.2.1,⟨by simp,by simp only;omega,by simp,by simp only;omega⟩,rfl,rfl,rfl⟩
  . exact Uz h.2.1
 | opn sn i c =>
  simp only[turn]
  split
  . trivial
  . exact Pl.good.up (by omega) h
 | Tc sn i c =>
  simp only[turn]
  split <;> trivial
 | XO a i=>trivial
 | none=>trivial
end
section
set_option maxRecDepth 20000
def Yw (nx ka sn ch ws sa sb:Int):List Value:=[iV nx,iV ka,.int .u64 sn,iV ch,.int .u64 ws,iV sa,iV sb]
theorem UB {w:World} {L:Loc} {b o:Nat} {ch:Nat} (hi:w.cell? ⟨b,o+3,none⟩=some (iV ch)) (c0 c1 c2 c3 c4 c5 c6 who:Int) (A:Nat) (ar:Yu c0 c1 c2 c3) (hch:ch<=1000000) (hA:6+c0+c1 * 2+(ch:Int) * 3=A) :
 Calls Tryz.prog 173 #[pP b o,eV c0 c1 c2 c3 c4 c5 c6 L.p who] w fun e w'=>e=.returned (iV A)/\Below w.heap.size w w':=by
 have HA:Hid (6+c0+c1 * 2+(ch:Int) * 3=A):=hA
 clear hA
 go_enter Tryz.func173,Tryz.ntmps173
 go_wp2
 refine ZT (fun W=>W.cell? ⟨b,o+3,none⟩=some (iV ch)/\ZP W w.heap.size c0 c1 c2 c3 c4 c5 c6 L.p who/\Below w.heap.size w W) ⟨keep' (Z7 (Below.refl _ _) _) hi,ZP.new,Z7 (Below.refl _ _) _⟩ ?_
 rintro W ⟨i1,v1,o1⟩
 have f3:=fun N:Later W=>keep' N.below i1
 have e0:=fun N:Later W=>(v1.grown N.below).c0
 have e1:=fun N:Later W=>(v1.grown N.below).c1
 have e2:=fun N:Later W=>(v1.grown N.below).c2
 have e3:=fun N:Later W=>(v1.grown N.below).c3
 have e4:=fun N:Later W=>(v1.grown N.below).c4
 have e5:=fun N:Later W=>(v1.grown N.below).c5
 have e6:=fun N:Later W=>(v1.grown N.below).c6
 have e7:=fun N:Later W=>(v1.grown N.below).c7
 have e8:=fun N:Later W=>(v1.grown N.below).c8
 haveI:=Later.exists W
 try simp only[iV]
 try simp only[pP]
 try simp only[eV]
 refine Zp (by kernel_rfl) (by kernel_rfl) ?_
 repeat (go_big_quiet_step ((go_at_call 68;exact Calls.later (WI _ _ _ _ _ _ _ _ _ ar (by omega) (by omega)))))
 refine wpQuiet_nil ?_
 rintro _ ⟨nq,rfl⟩
 clear e0 e1 e2 e3 e4 e5 e6 e7 e8 f3
 go_wp2
 go_ret
 exact⟨Zi HA.out,grow o1 nq.below⟩
theorem Vz {w:World} {L:Loc} {s:Mm} {b o:Nat} {T:TypeId} {cs:Array Value} {nx ka sn ch ws sa sb:Int} (h:Z8 w L s) (hb:¬ L.has b) (hi:At w b o T cs (Yw nx ka sn ch ws sa sb)) (c0 c1 c2 c3 c4 c5 c6 who:Int) (i nx':Int) (hnx:(if c2<=i then 8 else 3)=nx') :
 Calls Tryz.prog 172 #[pP b o,eV c0 c1 c2 c3 c4 c5 c6 L.p who,iV i] w fun e w'=>e=.returned (.tuple #[])/\Z8 w' L s/\Only (L.and b) w w'/\∃ cs',At w' b o T cs' (Yw nx' ka sn i ws sa sb)/\Same o 7 cs cs':=by
 obtain⟨hbv,hbb⟩:=nb h hi.lt
 subst hnx
 have i1:=hi.grown (Z7 (Below.refl _ _) (.cells #[iV c0,iV c1,iV c2,iV c3,iV c4,iV c5,iV c6,pP L.p 0,iV who] 27))
 have k0:=i1.cell0 rfl
 have k3:=i1.cell 3 rfl
 have kf:=i1.fz
 have v1:ZP (w.alloc (.cells #[iV c0,iV c1,iV c2,iV c3,iV c4,iV c5,iV c6,pP L.p 0,iV who] 27)) w.heap.size c0 c1 c2 c3 c4 c5 c6 L.p who:=ZP.new
 have v2:=((v1.ZY hbb (o+3) (iV i)).ZY hbb o (iV 3)).c2
 have i2:=(i1.set 3 (iV i)).set0 (iV 3)
 have j0:=i2.cell0 rfl
 have jf:=i2.fz
 by_cases hc:c2<=i
 . rw[if_pos hc]
   have i3:=i2.set0 (iV 8)
   go_enter Tryz.func172,Tryz.ntmps172
   go_wp2
   go_end0
   exact⟨rfl,(((h.alloc _).ZY hb _ _).ZY hb _ _).ZY hb _ _,((((Only.refl _ _).alloc _).set _ _).set _ _).set _ _,_,i3,((Same.refl.set (by omega) _).set (by omega) _).set (by omega) _⟩
 . rw[if_neg hc]
   go_enter Tryz.func172,Tryz.ntmps172
   go_wp2
   go_end0
   exact⟨rfl,((h.alloc _).ZY hb _ _).ZY hb _ _,(((Only.refl _ _).alloc _).set _ _).set _ _,_,i2,(Same.refl.set (by omega) _).set (by omega) _⟩
theorem Vy {w:World} {L:Loc} {s:Mm} {b o:Nat} {T:TypeId} {cs:Array Value} {nx ka sn sa sb:Int} {ch:Nat} (h:Z8 w L s) (hb:¬ L.has b) (C:Ck) (hi:At w b o T cs (Yw nx ka sn ch C.w sa sb)) (c0 c1 c2 c3 c4 c5 c6 who:Int) (A:Nat) (ar:Yu c0 c1 c2 c3) (hch:ch<=1000000) (hA:6+c0+c1 * 2+(ch:Int) * 3=A) (hn:A<s.n) (x1 x2 σ:Nat) (hC:C.ok σ) (hx:x1<=3/\x2<=3) (hσ:σ<=1000000) (d:Bool) (hd:decide (s.wd A=C.w)=d) :
 Calls Tryz.prog 176 #[pP b o,eV c0 c1 c2 c3 c4 c5 c6 L.p who,.agg #[iV x1,iV x2,iV 0,iV 0]] w fun e w'=>e=.returned (.bool d)/\Z8 w' L ((s.by who).Wq A C.w (⟨x1,x2,0,C.sp+1⟩:Ck).w)/\Only (L.and b) w w'/\∃ cs',At w' b o T cs' (Yw nx ka sn ch (⟨x1,x2,0,C.sp+1⟩:Ck).w sa sb)/\Same o 7 cs cs':=by
 obtain⟨hbv,hbb⟩:=nb h hi.lt
 have HA:Hid (6+c0+c1 * 2+(ch:Int) * 3=A):=hA
 have HD:Hid (decide (s.wd A=C.w)=d):=hd
 have HC:Hid (C.ok σ):=hC
 have mO:=hC.sp
 have hN:(⟨x1,x2,0,C.sp+1⟩:Ck).ok (σ+1):=⟨hx.1,hx.2,by simp,by simp only;omega⟩
 have HN:Hid ((⟨x1,x2,0,C.sp+1⟩:Ck).ok (σ+1)):=hN
 have hwr:wrap64 ((C.sp:Int)+1)=((C.sp+1:Nat):Int):=by unfold wrap64;omega
 have cw:=fun w=>UC C σ hC (by omega) w
 have pw:=fun w=>Q7 (⟨x1,x2,0,C.sp+1⟩:Ck) (σ+1) hN (by omega) x1 x2 0 ((C.sp+1:Nat):Int) rfl rfl rfl rfl w
 have fl:∀ (a1 a2 a3 a4:Value) (w:World),(Instr.field 225 (.agg #[a1,a2,a3,a4]) 3).run Tryz.prog w=.ok a4 w:=fun a1 a2 a3 a4 w=>by kernel_rfl
 clear hA hd hN hC
 obtain⟨X,hX⟩:∃ X,(⟨x1,x2,0,C.sp+1⟩:Ck).w=X:=⟨_,rfl⟩
 rw[hX] at pw ⊢
 obtain⟨Z,hZ⟩:∃ Z,C.w=Z:=⟨_,rfl⟩
 rw[hZ] at cw hi ⊢
 have hbc:¬ L.has (w.heap.size+1):=fun hh=>by have:=h.lt _ hh;omega
 have hbd:¬ w.heap.size+1=b:=fun hh=>by have:=hi.lt;omega
 have i0:=hi.grown (Z7 (Z7 (Below.refl _ _) (.cells #[iV c0,iV c1,iV c2,iV c3,iV c4,iV c5,iV c6,pP L.p 0,iV who] 27)) (.cells #[iV x1,iV x2,iV 0,iV 0] 225))
 have k4:=i0.cell 4 rfl
 go_enter Tryz.func176,Tryz.ntmps176
 go_wp2_with (first
  | (go_at_call 174;refine(cw _).mono ?_;rintro e w1 ⟨rfl,b1⟩;have j1:=(At.new (w.alloc (.cells #[iV c0,iV c1,iV c2,iV c3,iV c4,iV c5,iV c6,pP L.p 0,iV who] 27)) 225 [iV x1,iV x2,iV 0,iV 0]).grown b1;rw[Go.Deep.nblk_alloc] at j1;have q0:=j1.at0 0 rfl;have q1:=j1.at0 1 rfl;have q2:=j1.at0 2 rfl;have q3:=j1.at0 3 rfl;have qf:=j1.fz;have j2:=j1.ZQ 3 (iV ((C.sp+1:Nat):Int));have r0:=j2.at0 0 rfl;have r1:=j2.at0 1 rfl;have r2:=j2.at0 2 rfl;have r3:=j2.at0 3 rfl)
  | (go_at_call 175;refine(pw _).mono ?_;rintro e w2 ⟨rfl,b2⟩))
 refine ZT (fun W=>Z8 W L s/\At W b o T cs (Yw nx ka sn ch Z sa sb)/\ZP W w.heap.size c0 c1 c2 c3 c4 c5 c6 L.p who/\Only (L.and b) w W) ⟨((((h.alloc _).alloc _).below b1).ZY hbc _ _).below b2,((i0.grown b1).other (fun e=>hbd e.symm) _ _).grown b2,(((ZP.Xb _).grown b1).ZY (by omega) _ _).grown b2,(((((Only.refl _ _).alloc _).alloc _).trans (Only.Z5 b1)).setCell (fun hlt=>by simp only at hlt;omega) _).trans (Only.Z5 b2)⟩ ?_
 clear b1 b2 j1 j2 q0 q1 q2 q3 qf r0 r1 r2 r3 k4 i0
 rintro W ⟨m1,i1,v1,o1⟩
 rw[hZ] at HD
 apply QO (R:=Only L.has) (fun p W'=>match p with | 0=>Z8 W' L s | _=>Z8 W' L ((s.by who).Wq A Z X)) [9] yu (fun x y p h k=>by match p,k with | 0,k=>exact k.below h | p+1,k=>exact k.below h) m1.drew;. kernel_rfl
 apply pV;. intro w' hR _;apply ol;obtain⟨y0,y1,y2,y3,y4,y5,y6,y7,y8⟩:=(v1.grown ((Below.refl _ _).drew)).only hR hbv;go_simp;exact gl
 apply pV;. intros;apply ol;go_simp;exact gl
 apply pV;. intro w' hR _;apply ol;obtain⟨y0,y1,y2,y3,y4,y5,y6,y7,y8⟩:=(v1.grown ((Below.refl _ _).drew)).only hR hbv;go_simp;exact gl
 apply pV;. intro w' hR _;apply ol;go_simp;exact cb (UB ((i1.drew.only hR hb).cell 3 rfl) _ _ _ _ _ _ _ _ A ar hch HA.out)
 iterate 2 (apply pV;. intros;apply ol;go_simp;exact gl)
 try simp only[pu,s0,s1]
 apply pV;. intros;apply ol;go_simp;exact gl
 apply pV;. intro w' hR _;apply ol;have z:=(i1.drew.only hR hb).cell 4 rfl;go_simp;exact gl
 apply pV;. intros;apply ol;go_simp;exact gl
 apply pV (c:=.bool d);. intro w' hR _ hP;apply ol;go_simp;refine(Yj (s:=s) hP _ _ _ _ _ _ _ _ A hn _ _).mono ?_;rintro e w'' ⟨rfl,m2,o2⟩;exact⟨_,rfl,⟨o2,m2⟩,congrArg Value.bool HD.out⟩
 apply uV;. intros;apply ol;go_simp;exact gl
 try simp only[pu,s0,s1]
 intro w2 hR m2 _
 have Gw:Z8 w2 L ((s.by who).Wq A Z X):=m2
 have i2:=i1.drew.only hR hb
 have o2:Only (L.and b) w w2:=o1.drew.trans hR.XH
 clear m1 i1 v1 o1 hR m2 HA HD HC HN cw pw
 have k4:=i2.cell 4 rfl
 have kf:=i2.fz
 go_wp2
 go_ret
 exact⟨rfl,Gw.ZY hb _ _,o2.set _ _,_,i2.set 4 _,Same.refl.set (by omega) _⟩
end
section
set_option maxRecDepth 20000
theorem Hw {w:World} {L:Loc} {s:Mm} {b o:Nat} {T:TypeId} {cs:Array Value} {sn ch ws sa sb:Int} {κ:Nat} (h:Z8 w L s) (hb:¬ L.has b) (hi:At w b o T cs (Yw 0 κ sn ch ws sa sb)) (c0 c1 c2 c3 c4 c5 c6 who:Int) (hκ:κ<4) (hn:2+κ<s.n) (i:Nat) (hc:(i:Int)<c2) (hc2:c2<=64) (hw:s.wd (2+κ)=((i:Int)+1)) :
 Calls Tryz.prog 160 #[pP b o,eV c0 c1 c2 c3 c4 c5 c6 L.p who] w fun e w'=>e=.returned (.tuple #[])/\Z8 w' L ((s.by who).step (2+κ) (s.wd (2+κ)))/\Only (L.and b) w w'/\∃ cs',At w' b o T cs' (Yw 1 κ ((i:Int)+1) i ws sa sb)/\Same o 7 cs cs':=by
 obtain⟨hbv,hbb⟩:=nb h hi.lt
 have HX:Hid (s.wd (2+κ)=((i:Int)+1)):=hw
 rw[hw]
 clear hw
 have hq:((i:Int)+1 == 0)=false:=by simp;omega
 have hcv:IntKind.u64.wrap c2=c2:=wrap_small c2 (by omega) (by omega)
 go_enter Tryz.func160,Tryz.ntmps160
 go_wp2
 refine wo b h (fun _ g=>hi.grown g) ?_
 rintro W ⟨m1,i1,v1,o1⟩
 apply QO (R:=ZO L b (o+2)) (UL L b o T cs (cs.setIfInBounds (o+2) (.int .u64 ((i:Int)+1))) s ((s.by who).step (2+κ) ((i:Int)+1)) (Yw 0 κ sn ch ws sa sb) (Yw 0 κ ((i:Int)+1) ch ws sa sb)) [7,10] MQ Y8 ⟨m1.drew,i1.drew⟩;. kernel_rfl
 apply pV;. intros;apply ol;go_simp;exact gl
 apply pV;. intro w' hR _;apply ol;have y:=(v1.dn hR.only hbv hbb).yy;go_simp;exact gl
 iterate 3 (apply pV;. intros;apply ol;go_simp;exact gl)
 apply pV;. intro w' hR _;apply ol;have z:=hR.keep (j:=o+1) (by omega) (i1.drew.cell 1 rfl);go_simp;exact gl
 try simp only[pu,s0,s1]
 apply pV (c:=iV ((2+κ:Nat):Int));. intro w' hR _;apply ol;go_simp;refine(TW (κ:Int) _ (by omega) (by omega)).mono ?_;rintro e w'' ⟨rfl,rfl⟩;exact⟨_,rfl,Grown.refl _,congrArg (Value.int .i64) (by omega)⟩
 apply pV (c:=.int .u64 ((i:Int)+1));. intro w' hR _ hP;apply ol;go_simp;refine(Zj (s:=s) hP.1 _ _ _ _ _ _ _ _ (2+κ) hn).mono ?_;rintro e w'' ⟨rfl,m2,o2⟩;rw[HX.out] at m2;exact⟨_,rfl,⟨ZO.Yq o2 hb,m2,hP.2.only o2 hb⟩,by simp[Want.pred,HX.out]⟩
 iterate 2 (apply pV;. intros;apply ol;go_simp;exact gl)
 apply OE;. intro w' hR _ hP;apply ol;have z0:=hP.2.cell 2 rfl;have z1:=hP.2.fz;go_simp;exact⟨⟨ZO.set _ _,hP.1.ZY hb _ _,hP.2.set 2 _⟩,trivial⟩
 try simp only[pu,s0,s1]
 try simp only[pn]
 intro v w2 hR hP _
 obtain⟨m2,i2⟩:Z8 w2 L ((s.by who).step (2+κ) ((i:Int)+1))/\At w2 b o T (cs.setIfInBounds (o+2) (.int .u64 ((i:Int)+1))) (Yw 0 κ ((i:Int)+1) ch ws sa sb):=hP
 have o2:Only (L.and b) w w2:=o1.drew.trans hR.only
 have v2:=v1.dn hR.only hbv hbb
 have s2:Same o 7 cs (cs.setIfInBounds (o+2) (.int .u64 ((i:Int)+1))):=Same.refl.set (by omega) _
 clear hR o1 v1 m1 i1
 go_wp2
 have e0:=fun N:Later w2=>(v2.grown N.below).c0
 have e1:=fun N:Later w2=>(v2.grown N.below).c1
 have e2:=fun N:Later w2=>(v2.grown N.below).c2
 have e3:=fun N:Later w2=>(v2.grown N.below).c3
 have e4:=fun N:Later w2=>(v2.grown N.below).c4
 have e5:=fun N:Later w2=>(v2.grown N.below).c5
 have e6:=fun N:Later w2=>(v2.grown N.below).c6
 have e7:=fun N:Later w2=>(v2.grown N.below).c7
 have e8:=fun N:Later w2=>(v2.grown N.below).c8
 have f2:=fun N:Later w2=>(i2.grown N.below).cell 2 rfl
 haveI:=Later.exists w2
 try simp only[iV]
 try simp only[pP]
 try simp only[eV]
 refine Zp (by kernel_rfl) (by kernel_rfl) ?_
 repeat (go_big_quiet_step (fail))
 refine wpQuiet_nil ?_
 rintro _ ⟨nq,rfl⟩
 clear e0 e1 e2 e3 e4 e5 e6 e7 e8 f2
 have i4:=i2.grown nq.below
 have m4:=m2.below nq.below
 have v4:=v2.grown nq.below
 have o4:Only (L.and b) w nq.now:=o2.trans (Only.Z5 nq.below)
 clear i2 m2 o2 v2
 have k0:=i4.cell0 rfl
 have k2:=i4.cell 2 rfl
 have k3:=i4.cell 3 rfl
 have kf:=i4.fz
 have i5:=(i4.set 3 (iV (i:Int))).set0 (iV 1)
 go_wp2
 go_end0
 exact⟨rfl,(m4.ZY hb _ _).ZY hb _ _,(o4.set _ _).set _ _,_,i5,(s2.set (by omega) _).set (by omega) _⟩
theorem Hu {w:World} {L:Loc} {s:Mm} {b o:Nat} {T:TypeId} {cs:Array Value} {sn ch ws sa sb:Int} {κ:Nat} (h:Z8 w L s) (hb:¬ L.has b) (hi:At w b o T cs (Yw 0 κ sn ch ws sa sb)) (c0 c1 c2 c3 c4 c5 c6 who:Int) (hκ:κ<4) (hn:2+κ<s.n) (nx':Int) (hnx:(if c2<=0 then 8 else 3)=nx') (hw:s.wd (2+κ)=0) :
 Calls Tryz.prog 160 #[pP b o,eV c0 c1 c2 c3 c4 c5 c6 L.p who] w fun e w'=>e=.returned (.tuple #[])/\Z8 w' L ((s.by who).step (2+κ) (s.wd (2+κ)))/\Only (L.and b) w w'/\∃ cs',At w' b o T cs' (Yw nx' κ 0 0 ws sa sb)/\Same o 7 cs cs':=by
 obtain⟨hbv,hbb⟩:=nb h hi.lt
 have HX:Hid (s.wd (2+κ)=0):=hw
 rw[hw]
 clear hw
 go_enter Tryz.func160,Tryz.ntmps160
 go_wp2
 refine wo b h (fun _ g=>hi.grown g) ?_
 rintro W ⟨m1,i1,v1,o1⟩
 apply QO (R:=ZO L b (o+2)) (UL L b o T cs (cs.setIfInBounds (o+2) (.int .u64 0)) s ((s.by who).step (2+κ) 0) (Yw 0 κ sn ch ws sa sb) (Yw 0 κ 0 ch ws sa sb)) [7,10] MQ Y8 ⟨m1.drew,i1.drew⟩;. kernel_rfl
 apply pV;. intros;apply ol;go_simp;exact gl
 apply pV;. intro w' hR _;apply ol;have y:=(v1.dn hR.only hbv hbb).yy;go_simp;exact gl
 iterate 3 (apply pV;. intros;apply ol;go_simp;exact gl)
 apply pV;. intro w' hR _;apply ol;have z:=hR.keep (j:=o+1) (by omega) (i1.drew.cell 1 rfl);go_simp;exact gl
 try simp only[pu,s0,s1]
 apply pV (c:=iV ((2+κ:Nat):Int));. intro w' hR _;apply ol;go_simp;refine(TW (κ:Int) _ (by omega) (by omega)).mono ?_;rintro e w'' ⟨rfl,rfl⟩;exact⟨_,rfl,Grown.refl _,congrArg (Value.int .i64) (by omega)⟩
 apply pV (c:=.int .u64 0);. intro w' hR _ hP;apply ol;go_simp;refine(Zj (s:=s) hP.1 _ _ _ _ _ _ _ _ (2+κ) hn).mono ?_;rintro e w'' ⟨rfl,m2,o2⟩;rw[HX.out] at m2;exact⟨_,rfl,⟨ZO.Yq o2 hb,m2,hP.2.only o2 hb⟩,by simp[Want.pred,HX.out]⟩
 iterate 2 (apply pV;. intros;apply ol;go_simp;exact gl)
 apply OE;. intro w' hR _ hP;apply ol;have z0:=hP.2.cell 2 rfl;have z1:=hP.2.fz;go_simp;exact⟨⟨ZO.set _ _,hP.1.ZY hb _ _,hP.2.set 2 _⟩,trivial⟩
 try simp only[pu,s0,s1]
 try simp only[pn]
 intro v w2 hR hP _
 obtain⟨m2,i2⟩:Z8 w2 L ((s.by who).step (2+κ) 0)/\At w2 b o T (cs.setIfInBounds (o+2) (.int .u64 0)) (Yw 0 κ 0 ch ws sa sb):=hP
 have o2:Only (L.and b) w w2:=o1.drew.trans hR.only
 have v2:=v1.dn hR.only hbv hbb
 have s2:Same o 7 cs (cs.setIfInBounds (o+2) (.int .u64 0)):=Same.refl.set (by omega) _
 clear hR o1 v1 m1 i1
 go_wp2
 have e0:=fun N:Later w2=>(v2.grown N.below).c0
 have e1:=fun N:Later w2=>(v2.grown N.below).c1
 have e2:=fun N:Later w2=>(v2.grown N.below).c2
 have e3:=fun N:Later w2=>(v2.grown N.below).c3
 have e4:=fun N:Later w2=>(v2.grown N.below).c4
 have e5:=fun N:Later w2=>(v2.grown N.below).c5
 have e6:=fun N:Later w2=>(v2.grown N.below).c6
 have e7:=fun N:Later w2=>(v2.grown N.below).c7
 have e8:=fun N:Later w2=>(v2.grown N.below).c8
 have f2:=fun N:Later w2=>(i2.grown N.below).cell 2 rfl
 haveI:=Later.exists w2
 try simp only[iV]
 try simp only[pP]
 try simp only[eV]
 refine Zp (by kernel_rfl) (by kernel_rfl) ?_
 repeat (go_big_quiet_step (fail))
 refine wpQuiet_nil ?_
 rintro _ ⟨nq,rfl⟩
 clear e0 e1 e2 e3 e4 e5 e6 e7 e8 f2
 have i4:=i2.grown nq.below
 have m4:=m2.below nq.below
 have v4:=v2.grown nq.below
 have o4:Only (L.and b) w nq.now:=o2.trans (Only.Z5 nq.below)
 clear i2 m2 o2 v2
 have k0:=i4.cell0 rfl
 have k2:=i4.cell 2 rfl
 have k3:=i4.cell 3 rfl
 have kf:=i4.fz
 obtain⟨y0,y1,y2,y3,y4,y5,y6,y7,y8⟩:=id v4
 go_wp2_with (go_at_call 172;refine(Vz m4 hb i4 _ _ _ _ _ _ _ _ 0 nx' hnx).mono ?_;rintro e w5 ⟨rfl,m5,o5,sV,i5,s5⟩)
 refine bodyPost_ret (results_none rfl _ _ _) rfl ?_
 exact⟨rfl,m5,o4.trans o5,sV,i5,s2.trans s5⟩
end
end Go.Proofs.YtgehjolndmgffaaGreat
