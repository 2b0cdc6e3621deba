import Derived.Test.YtlolfmoolgenpaaGreatActBook
import Derived.Test.YtlolfmoolgenpaaGreatActOut
import Derived.Test.YtlolfmoolgenpaaGreatActArgs
import Derived.Lib.SliceRun
namespace Go.Proofs.YtlolfmoolgenpaaGreat
open Go.RowKit
def noJ (_ : Nat -> Option Value) : Prop:=True
def tri {α : Type} (a b c : α) : Nat -> α
 | 0=>a
 | 1=>b
 | _=>c
set_option maxRecDepth 20000 in
set_option maxHeartbeats 8000000 in
theorem actPlays_any (ao : Option Addr) (n cap : Nat) (A : Nat -> Xa) (w : World) (hA : XasAt w ao n A) (hF : ∀ i,i < n -> XaFit (A i)) : Calls Tryz.prog 3 #[.slice ao n cap] w fun e w'=>e = .returned (.bool true) /\ Below w.heap.size w w':=by
 have ar:=fun w=>arena04_any good15d w
 have qn : ∀ (w : World) (a : Option Addr) (n c n' c' : Nat),(binOp .eql 43 (.slice a n c) (.slice none n' c')).run Tryz.prog w = .ok (.bool a.isNone) w:=fun w a n c n' c'=>Lib.run_eql_slice_nil w _ _ a n c n' c' Tryz.underlying43
 have HA : Hid (XasAt w ao n A):=hA
 have HFA : Hid (∀ i,i < n -> XaFit (A i)):=hF
 clear hA hF
 go_enter Tryz.func3,Tryz.ntmps3
 go_wp2_with (first
  | (go_at_call 9;refine (ar _).mono ?_;rintro e w1 ⟨L,rfl,m1,b1,l1⟩;clear ar;obtain ⟨p1,pa⟩:=Hut.first good15d (by decide) m1 b1 l1)
  | (go_at_call 10;refine (awake15_any _).mono ?_;rintro e w2 ⟨rfl,g2⟩;have p2:=p1.grown g2;clear p1))
 obtain ⟨E,hE⟩ : ∃ E,w1.heap.size = E:=⟨_,rfl⟩
 rw [hE] at p2 pa ⊢
 have PA : Hid (FarmApart w L E 1 6 8 40 100):=pa
 have n1:=Rw.fresh w2 34
 have n2:=Rw.fresh (w2.alloc (.cells #[] 34)) 43
 have n3:=Rw.fresh ((w2.alloc (.cells #[] 34)).alloc (.cells #[] 43)) 4
 have hEl:=p2.ltE
 have hws:=p2.b.size
 have lone : ∀ b,w2.heap.size <= b -> Lone w L E b:=fun b hb=>⟨by omega,fun h=>by have:=p2.mm.lt b h;omega,by omega⟩
 have c3:=((p2.alloc (.cells #[] 34)).alloc (.cells #[] 43)).alloc (.cells #[] 4)
 simp only [Go.Deep.nblk_alloc] at n2 n3
 have g3 : Grid w (((w2.alloc (.cells #[] 34)).alloc (.cells #[] 43)).alloc (.cells #[] 4)) L E [] (fun _ _=>0) w2.heap.size 0 (w2.heap.size + 1) 0 (w2.heap.size + 1 + 1) 0:=⟨(n1.grown (grow1 _ _)).grown (grow1 _ _),n2.grown (grow1 _ _),n3,(fun K r e=>by simp at e),(fun K K' r r' _ e=>by simp at e),lone _ (Nat.le_refl _),lone _ (by omega),lone _ (by omega),(fun K r e=>by simp at e)⟩
 have A3 : Hid (Hut w (((w2.alloc (.cells #[] 34)).alloc (.cells #[] 43)).alloc (.cells #[] 4)) L E 1 6 8 40 (Mm.laid 1 6 (arenaLen 1 6 8 40) 6) (1 + 2 * 6) (Q.new 6) 0 (fun _=>1) [] /\ Grid w (((w2.alloc (.cells #[] 34)).alloc (.cells #[] 43)).alloc (.cells #[] 4)) L E [] (fun _ _=>0) w2.heap.size 0 (w2.heap.size + 1) 0 (w2.heap.size + 1 + 1) 0):=⟨c3,g3⟩
 clear p2 c3 g3 n1 n2 n3 hEl hws lone pa g2 m1 b1 l1 hE
 go_loopw [5,6,7,8] (fun v5 v6 v7 v8 wr=>∃ (j : Nat) (s : Mm) (σ : Nat) (q : Q) (nx : Nat) (gen : Nat -> Nat) (ls : List Ox) (rs : List Rc) (D : Nat -> Nat -> Int) (b1 c1 b2 c2 b3 c3 : Nat),v5 = .slice (some ⟨b1,0,none⟩) rs.length c1 /\ v6 = .slice (some ⟨b2,0,none⟩) rs.length c2 /\ v7 = .slice (some ⟨b3,0,none⟩) rs.length c3 /\ v8 = .int .i64 j /\ j <= 80 /\ σ <= 13 + 500 * j /\ Hut w wr L E 1 6 8 40 s σ q nx gen ls /\ Grid w wr L E rs D b1 c1 b2 c2 b3 c3 /\ Shelf 6 j q gen ls rs D) (fun _ _ _ v8 _=>80 - (intOf v8).toNat)
 case atStart=>exact ⟨0,_,_,_,_,_,_,[],fun _ _=>0,_,_,_,_,_,_,rfl,rfl,rfl,rfl,by omega,by omega,A3.out.1,A3.out.2,shelf0 6⟩
 case round =>
  clear A3
  obtain ⟨j,s,σ,q,nx,gen,ls,rs,D,b1,c1,b2,c2,b3,c3,rfl,rfl,rfl,rfl,hj,hσ,f,G,S⟩:=hrel
  by_cases hjn : j < n
  · by_cases hj8 : j < 80
    · have hjn' : (j : Int) < (n : Int):=by omega
      have hj8' : (j : Int) < 80:=by omega
      obtain ⟨b,off,rfl,h0,h1,h2,h3,h4,h5,h6⟩:=(HA.out.grown f.b) j hjn
      obtain ⟨Y,ym,ysz,ynu,yix,yow,ycut⟩:=cut_any (A j)
      have fX:=HFA.out j hjn
      have hY : ∀ nu : Int,Wd nu -> ∃ E0 H V q' nx' gen' ls',Out 8 ⟨Y.kd,Y.sz,nu,Y.ix,Y.vl,Y.ol,Y.own⟩ q nx gen ls E0 H V q' nx' gen' ls' /\ ∀ w1' : World,Hut w w1' L E 1 6 8 40 s σ q nx gen ls ->
       Calls Tryz.prog 12 #[.agg #[.int .i64 ((1 : Nat) : Int),.int .i64 ((6 : Nat) : Int),.int .i64 ((8 : Nat) : Int),.int .i64 ((40 : Nat) : Int),.int .i64 100,.int .i64 600,.int .i64 3,.pointer (some ⟨L.p,0,none⟩),.int .i64 0],.agg #[.int .i64 Y.kd,.int .i64 Y.sz,.int .u64 nu,.int .i64 Y.ix,.int .i64 Y.vl,.int .i64 Y.ol,.bool Y.own]] w1' fun e w'=>∃ (St : Int) (s' : Mm) (σ' : Nat),e = .returned (.agg #[.int .i64 E0,.int .u64 H,.int .i64 V,.int .i64 St]) /\ σ' <= σ + 500 /\ (σ : Int) <= St /\ St <= (σ' : Int) /\ (E0 = 0 -> (σ : Int) < St) /\ Hut w w' L E 1 6 8 40 s' σ' q' nx' gen' ls' /\ Only L.has w1' w':=fun nu hnu=>f.do PA.out ⟨Y.kd,Y.sz,nu,Y.ix,Y.vl,Y.ol,Y.own⟩ (may_nu ym nu) (by show Fit Y.sz;rw [ysz];exact fX.2.1) hnu (fun o ho=>by have:=f.tm.gn o ho;have:=S.gb o.x;omega) (by omega)
      have hyn : Wd Y.nu:=by rw [ynu];exact fX.2.2.1
      have hyk : 1 <= Y.kd /\ Y.kd <= 5:=by
       unfold Xa.may at ym
       simp only [Bool.and_eq_true,decide_eq_true_eq] at ym
       exact ym.1.1
      obtain ⟨k1,k5⟩:=hyk
      obtain ⟨kx,sx,ux,ix,vx,ox,ownx⟩:=Y
      generalize A j = Xj at h0 h1 h2 h3 h4 h5 h6 ycut
      obtain ⟨ka,sa,ua,ia,va,oa,owna⟩:=Xj
      have ycut : ∀ w,Calls Tryz.prog 11 #[.agg #[.int .i64 ka,.int .i64 sa,.int .u64 ua,.int .i64 ia,.int .i64 va,.int .i64 oa,.bool owna]] w fun e w'=>e = .returned (.agg #[.int .i64 kx,.int .i64 sx,.int .u64 ux,.int .i64 ix,.int .i64 vx,.int .i64 ox,.bool ownx]) /\ Below w.heap.size w w':=ycut
      simp only at h0 h1 h2 h3 h4 h5 h6 hY hyn k1 k5
      clear ym ysz ynu yix yow fX
      have HTM : Hid (Tame 1 6 8 40 q nx gen ls):=f.tm
      have HSG : Hid (σ <= 13 + 500 * j):=hσ
      have HSH : Hid (Shelf 6 j q gen ls rs D):=S
      have HF : Hid (Hut w wr L E 1 6 8 40 s σ q nx gen ls):=f
      have HG : Hid (Grid w wr L E rs D b1 c1 b2 c2 b3 c3):=G
      clear hσ S f G
      by_cases hk1 : kx = 1
      · by_cases hr0 : rs.length = 0
        · have hr1 : decide ((0 : Int) < ((rs.length : Nat) : Int)) = false:=decide_eq_false (by omega)
          have hr2 : decide (0 < rs.length) = false:=decide_eq_false (by omega)
          have HR0 : Hid (rs.length = 0):=hr0
          clear hr0
          obtain rfl : kx = 1:=hk1
          obtain ⟨E0,H0,V0,q',nx',gen',ls',O,hdo⟩:=hY ux hyn
          have lc:=fun w=>lclass_any sx w
          have HSH0 : Hid (Shelf 6 j q gen ls rs D):=HSH.out
          cases O with
          | size h hz =>
           have HZ0 : Hid (classOf sx < 0):=hz
           have HSH : Hid (Shelf 6 (j + 1) q gen ls rs D):=HSH0.out.keep (fun _ _ _ _=>rfl)
           clear h hz hY
           as_aux_lemma =>
            have hcl : decide (classOf sx < 0) = true:=decide_eq_true HZ0.out
            go_wp2_with (first
             | (go_at_call 11;refine (ycut _).mono ?_;rintro e w3 ⟨rfl,g3⟩;have f3:=HF.out.grown g3;have G3:=HG.out.grown g3;have e0:=(fun O=>alloc_cell f3.v.c0 O);have e1:=(fun O=>alloc_cell f3.v.c1 O);have e2:=(fun O=>alloc_cell f3.v.c2 O);have e3:=(fun O=>alloc_cell f3.v.c3 O);have e4:=(fun O=>alloc_cell f3.v.c4 O);have e5:=(fun O=>alloc_cell f3.v.c5 O);have e6:=(fun O=>alloc_cell f3.v.c6 O);have e7:=(fun O=>alloc_cell f3.v.c7 O);have e8:=(fun O=>alloc_cell f3.v.c8 O))
             | (go_at_call 12;refine (hdo _ (f3.alloc (.cells #[.int .i64 1,.int .i64 sx,.int .u64 ux,.int .i64 ix,.int .i64 vx,.int .i64 ox,.bool ownx] 36))).mono ?_;rintro e w5 ⟨St,s',σ',rfl,hs1,-,-,-,f5',o5⟩;clear e0 e1 e2 e3 e4 e5 e6 e7 e8 hdo;have GB5:=grow1 w5 (.cells #[.int .i64 5,.int .u64 0,.int .i64 0,.int .i64 St] 40);have f5:=f5'.grown GB5;have G5:=((G3.grown (grow1 w3 (.cells #[.int .i64 1,.int .i64 sx,.int .u64 ux,.int .i64 ix,.int .i64 vx,.int .i64 ox,.bool ownx] 36))).mem o5).grown GB5;have xA:=((At.new w3 36 [.int .i64 1,.int .i64 sx,.int .u64 ux,.int .i64 ix,.int .i64 vx,.int .i64 ox,.bool ownx]).only o5 f3.ltL).grown GB5;have dN:=At.new w5 40 [.int .i64 5,.int .u64 0,.int .i64 0,.int .i64 St];have hXD : w3.heap.size < w5.heap.size:=((At.new w3 36 [.int .i64 1,.int .i64 sx,.int .u64 ux,.int .i64 ix,.int .i64 vx,.int .i64 ox,.bool ownx]).only o5 f3.ltL).lt;have hXG:=(fun b hb=>(G3.lt (b:=b) hb));have hDG:=(fun b hb=>((G3.grown (grow1 w3 (.cells #[.int .i64 1,.int .i64 sx,.int .u64 ux,.int .i64 ix,.int .i64 vx,.int .i64 ox,.bool ownx] 36))).mem o5).lt (b:=b) hb);have x0:=xA.at0 0 rfl;have x1:=xA.at0 1 rfl;have x3:=xA.at0 3 rfl;have x4:=xA.at0 4 rfl;have x5:=xA.at0 5 rfl;have x6:=xA.at0 6 rfl;have d0:=dN.at0 0 rfl;have d1:=dN.at0 1 rfl;have d2:=dN.at0 2 rfl)
             | (go_at_call 13;refine (lc _).mono ?_;rintro e w6 ⟨rfl,rfl⟩))
            have HS1 : Hid (σ' <= σ + 500):=hs1
            have HF5 : Hid (Hut w _ L E 1 6 8 40 s' σ' q nx gen ls):=f5
            have HG5 : Hid (Grid w _ L E rs D b1 c1 b2 c2 b3 c3):=G5
            go_roundw
            case rel=>exact ⟨j + 1,s',σ',q,nx,gen,ls,rs,D,b1,c1,b2,c2,b3,c3,rfl,rfl,rfl,by go_num,by omega,by have:=HS1.out;have:=HSG.out;omega,HF5.out,HG5.out,HSH.out⟩
            case measure=>simp [intOf];omega
          | empty h hz hF' =>
           have HZ0 : Hid (0 <= classOf sx):=hz
           have HSH : Hid (Shelf 6 (j + 1) q gen ls rs D):=HSH0.out.keep (fun _ _ _ _=>rfl)
           clear h hz hF' hY
           as_aux_lemma =>
            have hcl : decide (classOf sx < 0) = false:=decide_eq_false (by have:=HZ0.out;omega)
            go_wp2_with (first
             | (go_at_call 11;refine (ycut _).mono ?_;rintro e w3 ⟨rfl,g3⟩;have f3:=HF.out.grown g3;have G3:=HG.out.grown g3;have e0:=(fun O=>alloc_cell f3.v.c0 O);have e1:=(fun O=>alloc_cell f3.v.c1 O);have e2:=(fun O=>alloc_cell f3.v.c2 O);have e3:=(fun O=>alloc_cell f3.v.c3 O);have e4:=(fun O=>alloc_cell f3.v.c4 O);have e5:=(fun O=>alloc_cell f3.v.c5 O);have e6:=(fun O=>alloc_cell f3.v.c6 O);have e7:=(fun O=>alloc_cell f3.v.c7 O);have e8:=(fun O=>alloc_cell f3.v.c8 O))
             | (go_at_call 12;refine (hdo _ (f3.alloc (.cells #[.int .i64 1,.int .i64 sx,.int .u64 ux,.int .i64 ix,.int .i64 vx,.int .i64 ox,.bool ownx] 36))).mono ?_;rintro e w5 ⟨St,s',σ',rfl,hs1,-,-,-,f5',o5⟩;clear e0 e1 e2 e3 e4 e5 e6 e7 e8 hdo;have GB5:=grow1 w5 (.cells #[.int .i64 7,.int .u64 0,.int .i64 0,.int .i64 St] 40);have f5:=f5'.grown GB5;have G5:=((G3.grown (grow1 w3 (.cells #[.int .i64 1,.int .i64 sx,.int .u64 ux,.int .i64 ix,.int .i64 vx,.int .i64 ox,.bool ownx] 36))).mem o5).grown GB5;have xA:=((At.new w3 36 [.int .i64 1,.int .i64 sx,.int .u64 ux,.int .i64 ix,.int .i64 vx,.int .i64 ox,.bool ownx]).only o5 f3.ltL).grown GB5;have dN:=At.new w5 40 [.int .i64 7,.int .u64 0,.int .i64 0,.int .i64 St];have hXD : w3.heap.size < w5.heap.size:=((At.new w3 36 [.int .i64 1,.int .i64 sx,.int .u64 ux,.int .i64 ix,.int .i64 vx,.int .i64 ox,.bool ownx]).only o5 f3.ltL).lt;have hXG:=(fun b hb=>(G3.lt (b:=b) hb));have hDG:=(fun b hb=>((G3.grown (grow1 w3 (.cells #[.int .i64 1,.int .i64 sx,.int .u64 ux,.int .i64 ix,.int .i64 vx,.int .i64 ox,.bool ownx] 36))).mem o5).lt (b:=b) hb);have x0:=xA.at0 0 rfl;have x1:=xA.at0 1 rfl;have x3:=xA.at0 3 rfl;have x4:=xA.at0 4 rfl;have x5:=xA.at0 5 rfl;have x6:=xA.at0 6 rfl;have d0:=dN.at0 0 rfl;have d1:=dN.at0 1 rfl;have d2:=dN.at0 2 rfl)
             | (go_at_call 13;refine (lc _).mono ?_;rintro e w6 ⟨rfl,rfl⟩))
            have HS1 : Hid (σ' <= σ + 500):=hs1
            have HF5 : Hid (Hut w _ L E 1 6 8 40 s' σ' q nx gen ls):=f5
            have HG5 : Hid (Grid w _ L E rs D b1 c1 b2 c2 b3 c3):=G5
            go_roundw
            case rel=>exact ⟨j + 1,s',σ',q,nx,gen,ls,rs,D,b1,c1,b2,c2,b3,c3,rfl,rfl,rfl,by go_num,by omega,by have:=HS1.out;have:=HSG.out;omega,HF5.out,HG5.out,HSH.out⟩
            case measure=>simp [intOf];omega
          | full h hz x F hF' hk =>
           have HZ0 : Hid (0 <= classOf sx):=hz
           have HSH : Hid (Shelf 6 (j + 1) (q.back x F q.y) gen ls rs D):=HSH0.out.keep (fun _ _ _ _=>rfl)
           clear h hz hF' hk hY
           generalize q.back x F q.y = q' at hdo HSH
           as_aux_lemma =>
            have hcl : decide (classOf sx < 0) = false:=decide_eq_false (by have:=HZ0.out;omega)
            go_wp2_with (first
             | (go_at_call 11;refine (ycut _).mono ?_;rintro e w3 ⟨rfl,g3⟩;have f3:=HF.out.grown g3;have G3:=HG.out.grown g3;have e0:=(fun O=>alloc_cell f3.v.c0 O);have e1:=(fun O=>alloc_cell f3.v.c1 O);have e2:=(fun O=>alloc_cell f3.v.c2 O);have e3:=(fun O=>alloc_cell f3.v.c3 O);have e4:=(fun O=>alloc_cell f3.v.c4 O);have e5:=(fun O=>alloc_cell f3.v.c5 O);have e6:=(fun O=>alloc_cell f3.v.c6 O);have e7:=(fun O=>alloc_cell f3.v.c7 O);have e8:=(fun O=>alloc_cell f3.v.c8 O))
             | (go_at_call 12;refine (hdo _ (f3.alloc (.cells #[.int .i64 1,.int .i64 sx,.int .u64 ux,.int .i64 ix,.int .i64 vx,.int .i64 ox,.bool ownx] 36))).mono ?_;rintro e w5 ⟨St,s',σ',rfl,hs1,-,-,-,f5',o5⟩;clear e0 e1 e2 e3 e4 e5 e6 e7 e8 hdo;have GB5:=grow1 w5 (.cells #[.int .i64 6,.int .u64 0,.int .i64 0,.int .i64 St] 40);have f5:=f5'.grown GB5;have G5:=((G3.grown (grow1 w3 (.cells #[.int .i64 1,.int .i64 sx,.int .u64 ux,.int .i64 ix,.int .i64 vx,.int .i64 ox,.bool ownx] 36))).mem o5).grown GB5;have xA:=((At.new w3 36 [.int .i64 1,.int .i64 sx,.int .u64 ux,.int .i64 ix,.int .i64 vx,.int .i64 ox,.bool ownx]).only o5 f3.ltL).grown GB5;have dN:=At.new w5 40 [.int .i64 6,.int .u64 0,.int .i64 0,.int .i64 St];have hXD : w3.heap.size < w5.heap.size:=((At.new w3 36 [.int .i64 1,.int .i64 sx,.int .u64 ux,.int .i64 ix,.int .i64 vx,.int .i64 ox,.bool ownx]).only o5 f3.ltL).lt;have hXG:=(fun b hb=>(G3.lt (b:=b) hb));have hDG:=(fun b hb=>((G3.grown (grow1 w3 (.cells #[.int .i64 1,.int .i64 sx,.int .u64 ux,.int .i64 ix,.int .i64 vx,.int .i64 ox,.bool ownx] 36))).mem o5).lt (b:=b) hb);have x0:=xA.at0 0 rfl;have x1:=xA.at0 1 rfl;have x3:=xA.at0 3 rfl;have x4:=xA.at0 4 rfl;have x5:=xA.at0 5 rfl;have x6:=xA.at0 6 rfl;have d0:=dN.at0 0 rfl;have d1:=dN.at0 1 rfl;have d2:=dN.at0 2 rfl)
             | (go_at_call 13;refine (lc _).mono ?_;rintro e w6 ⟨rfl,rfl⟩))
            have HS1 : Hid (σ' <= σ + 500):=hs1
            have HF5 : Hid (Hut w _ L E 1 6 8 40 s' σ' q' nx gen ls):=f5
            have HG5 : Hid (Grid w _ L E rs D b1 c1 b2 c2 b3 c3):=G5
            go_roundw
            case rel=>exact ⟨j + 1,s',σ',q',nx,gen,ls,rs,D,b1,c1,b2,c2,b3,c3,rfl,rfl,rfl,by go_num,by omega,by have:=HS1.out;have:=HSG.out;omega,HF5.out,HG5.out,HSH.out⟩
            case measure=>simp [intOf];omega
          | made h hz oo q' nx' hZ how hF' hg h0 hkp hn =>
           have HZ0 : Hid (0 <= classOf sx):=hz
           have HOZZ : Hid (sx = (oo.Z : Int)):=hZ
           have HOW : Hid (oo.own = ownx):=how
           have C':=HTM.out
           obtain ⟨oZ,hoZ⟩ : ∃ z : Nat,z = oo.Z:=⟨_,rfl⟩
           have HOZ : Hid (sx = (oZ : Int)):=by rw [hoZ];exact hZ
           have HOZ2 : Hid (oZ <= 16):=by
            have h1 : 0 <= classOf sx:=hz
            have h2 : sx = (oZ : Int):=HOZ.out
            unfold classOf at h1
            have : oZ <= 16:=by omega
            exact this
           have HSHM : Hid (∀ C' : Tame 1 6 8 40 q' nx' gen (oo :: ls),∀ b,Shelf 6 (j + 1) q' gen (oo :: ls) (rs ++ [⟨oo.x,oo.g,oo.Z,oo.own,true,b⟩]) D):=fun C' b=>HSH0.out.made HTM.out C' hF' h0 hkp b
           obtain ⟨H1,hH1⟩ : ∃ H1,packH oo.x oo.g = H1:=⟨_,rfl⟩
           have HH1 : Hid (H1 = packH oo.x oo.g):=hH1.symm
           rw [hH1] at hdo
           clear h hz hZ how hF' hg h0 hkp hn hH1 hoZ C' hY
           as_aux_lemma =>
            have hcl : decide (classOf sx < 0) = false:=decide_eq_false (by have:=HZ0.out;omega)
            go_wp2_with (first
             | (go_at_call 11;refine (ycut _).mono ?_;rintro e w3 ⟨rfl,g3⟩;have f3:=HF.out.grown g3;have G3:=HG.out.grown g3;have e0:=(fun O=>alloc_cell f3.v.c0 O);have e1:=(fun O=>alloc_cell f3.v.c1 O);have e2:=(fun O=>alloc_cell f3.v.c2 O);have e3:=(fun O=>alloc_cell f3.v.c3 O);have e4:=(fun O=>alloc_cell f3.v.c4 O);have e5:=(fun O=>alloc_cell f3.v.c5 O);have e6:=(fun O=>alloc_cell f3.v.c6 O);have e7:=(fun O=>alloc_cell f3.v.c7 O);have e8:=(fun O=>alloc_cell f3.v.c8 O))
             | (go_at_call 12;refine (hdo _ (f3.alloc (.cells #[.int .i64 1,.int .i64 sx,.int .u64 ux,.int .i64 ix,.int .i64 vx,.int .i64 ox,.bool ownx] 36))).mono ?_;rintro e w5 ⟨St,s',σ',rfl,hs1,-,-,-,f5',o5⟩;clear e0 e1 e2 e3 e4 e5 e6 e7 e8 hdo;have GB5:=grow1 w5 (.cells #[.int .i64 0,.int .u64 H1,.int .i64 0,.int .i64 St] 40);have f5:=f5'.grown GB5;have G5:=((G3.grown (grow1 w3 (.cells #[.int .i64 1,.int .i64 sx,.int .u64 ux,.int .i64 ix,.int .i64 vx,.int .i64 ox,.bool ownx] 36))).mem o5).grown GB5;have xA:=((At.new w3 36 [.int .i64 1,.int .i64 sx,.int .u64 ux,.int .i64 ix,.int .i64 vx,.int .i64 ox,.bool ownx]).only o5 f3.ltL).grown GB5;have dN:=At.new w5 40 [.int .i64 0,.int .u64 H1,.int .i64 0,.int .i64 St];have hXD : w3.heap.size < w5.heap.size:=((At.new w3 36 [.int .i64 1,.int .i64 sx,.int .u64 ux,.int .i64 ix,.int .i64 vx,.int .i64 ox,.bool ownx]).only o5 f3.ltL).lt;have hXG:=(fun b hb=>(G3.lt (b:=b) hb));have hDG:=(fun b hb=>((G3.grown (grow1 w3 (.cells #[.int .i64 1,.int .i64 sx,.int .u64 ux,.int .i64 ix,.int .i64 vx,.int .i64 ox,.bool ownx] 36))).mem o5).lt (b:=b) hb);have x0:=xA.at0 0 rfl;have x1:=xA.at0 1 rfl;have x3:=xA.at0 3 rfl;have x4:=xA.at0 4 rfl;have x5:=xA.at0 5 rfl;have x6:=xA.at0 6 rfl;have d0:=dN.at0 0 rfl;have d1:=dN.at0 1 rfl;have d2:=dN.at0 2 rfl)
             | (go_at_call 13;refine (lc _).mono ?_;rintro e w6 ⟨rfl,rfl⟩))
            have HS1 : Hid (σ' <= σ + 500):=hs1
            obtain ⟨Xb,hXb⟩ : ∃ X,w3.heap.size = X:=⟨_,rfl⟩
            obtain ⟨Db,hDb⟩ : ∃ X,w5.heap.size = X:=⟨_,rfl⟩
            have HXG : Hid (∀ b,Gh rs b1 b2 b3 b -> b < Xb):=by rw [<- hXb];exact hXG
            have HDG : Hid (∀ b,Gh rs b1 b2 b3 b -> b < Db):=by rw [<- hDb];exact hDG
            rw [hXb] at xA hXD ⊢
            rw [hDb] at dN hXD ⊢
            have HXD : Hid (Xb < Db):=hXD
            refine wp_over (fun W=>Hut w W L E 1 6 8 40 s' σ' q' nx' gen (oo :: ls) /\ Grid w W L E rs D b1 c1 b2 c2 b3 c3 /\ At W Xb 0 36 _ [.int .i64 1,.int .i64 sx,.int .u64 ux,.int .i64 ix,.int .i64 vx,.int .i64 ox,.bool ownx] /\ At W Db 0 40 _ [.int .i64 0,.int .u64 H1,.int .i64 0,.int .i64 St]) ⟨f5,G5,xA,dN⟩ ?_
            clear f3 G3 f5' f5 G5 xA dN hXb hDb hXD hXG hDG o5 HF HG x0 x1 x3 x4 x5 x6 d0 d1 d2
            rintro W ⟨f5,G5,xA,dN⟩
            have HF5 : Hid (Hut w W L E 1 6 8 40 s' σ' q' nx' gen (oo :: ls)):=f5
            have HG5 : Hid (Grid w W L E rs D b1 c1 b2 c2 b3 c3):=G5
            clear hs1
            have x0:=xA.at0 0 rfl
            have x1:=xA.at0 1 rfl
            have x3:=xA.at0 3 rfl
            have x4:=xA.at0 4 rfl
            have x5:=xA.at0 5 rfl
            have x6:=xA.at0 6 rfl
            have d0:=dN.at0 0 rfl
            have d1:=dN.at0 1 rfl
            have d2:=dN.at0 2 rfl
            clear f5 G5 xA dN
            have HTM9 : Hid (Tame 1 6 8 40 q' nx' gen (oo :: ls)):=HF5.out.tm
            have G5d:=HG5.out.grown ((Below.refl W.heap.size W).drew)
            obtain ⟨Bz,hBz⟩ : ∃ B,W.heap.size = B:=⟨_,rfl⟩
            have hD5 : W.cell? ⟨Db,1,none⟩ = some (.int .u64 H1):=d1
            obtain ⟨Z,hZx⟩ : ∃ Z : Nat,sx = (Z : Int):=⟨oZ,HOZ.out⟩
            have HZx : Hid (sx = (Z : Int)):=hZx
            have hX1 : W.cell? ⟨Xb,1,none⟩ = some (.int .i64 (Z : Int)):=by rw [<- hZx];exact x1
            have hX6 : W.cell? ⟨Xb,6,none⟩ = some (.bool ownx):=x6
            have hZ16 : Z <= 16:=by have:=HOZ2.out;have:=HOZ.out;omega
            clear hZx x0 x1 x3 x4 x5 x6 d0 d1 d2 hcl lc
            have hf2 : ∀ a,a < 3 -> Duo.b (⟨tri b1 b2 b3,tri c1 c2 c3,tri (rs.map Rc.h) (rs.map Rc.w) (rs.map Rc.o),H1,ownx,Z,Bz⟩ : Duo) a < Bz:=by
             intro a ha
             have : a = 0 \/ a = 1 \/ a = 2:=by omega
             rcases this with rfl | rfl | rfl
             · rw [<- hBz];exact HG5.out.r1.lt
             · rw [<- hBz];exact HG5.out.r2.lt
             · rw [<- hBz];exact HG5.out.r3.lt
            have h12 : b1 ≠ b2:=HG5.out.r1.ne HG5.out.r2 (by decide)
            have h13 : b1 ≠ b3:=HG5.out.r1.ne HG5.out.r3 (by decide)
            have h23 : b2 ≠ b3:=HG5.out.r2.ne HG5.out.r3 (by decide)
            have hne0 : ∀ a',a' < 3 -> a' ≠ 0 -> Duo.b (⟨tri b1 b2 b3,tri c1 c2 c3,tri (rs.map Rc.h) (rs.map Rc.w) (rs.map Rc.o),H1,ownx,Z,Bz⟩ : Duo) a' ≠ Duo.b (⟨tri b1 b2 b3,tri c1 c2 c3,tri (rs.map Rc.h) (rs.map Rc.w) (rs.map Rc.o),H1,ownx,Z,Bz⟩ : Duo) 0:=fun a' h1 h2=>by
             have : a' = 1 \/ a' = 2:=by omega
             rcases this with rfl | rfl
             · exact h12.symm
             · exact h13.symm
            have hne1 : ∀ a',a' < 3 -> a' ≠ 1 -> Duo.b (⟨tri b1 b2 b3,tri c1 c2 c3,tri (rs.map Rc.h) (rs.map Rc.w) (rs.map Rc.o),H1,ownx,Z,Bz⟩ : Duo) a' ≠ Duo.b (⟨tri b1 b2 b3,tri c1 c2 c3,tri (rs.map Rc.h) (rs.map Rc.w) (rs.map Rc.o),H1,ownx,Z,Bz⟩ : Duo) 1:=fun a' h1 h2=>by
             have : a' = 0 \/ a' = 2:=by omega
             rcases this with rfl | rfl
             · exact h12
             · exact h23.symm
            have hne2 : ∀ a',a' < 3 -> a' ≠ 2 -> Duo.b (⟨tri b1 b2 b3,tri c1 c2 c3,tri (rs.map Rc.h) (rs.map Rc.w) (rs.map Rc.o),H1,ownx,Z,Bz⟩ : Duo) a' ≠ Duo.b (⟨tri b1 b2 b3,tri c1 c2 c3,tri (rs.map Rc.h) (rs.map Rc.w) (rs.map Rc.o),H1,ownx,Z,Bz⟩ : Duo) 2:=fun a' h1 h2=>by
             have : a' = 0 \/ a' = 1:=by omega
             rcases this with rfl | rfl
             · exact h13
             · exact h23
            have hasG : ∀ b,Duo.has (⟨tri b1 b2 b3,tri c1 c2 c3,tri (rs.map Rc.h) (rs.map Rc.w) (rs.map Rc.o),H1,ownx,Z,Bz⟩ : Duo) b -> Gh rs b1 b2 b3 b:=by
             rintro b ⟨a,ha,e⟩
             have : a = 0 \/ a = 1 \/ a = 2:=by omega
             rcases this with rfl | rfl | rfl
             · exact Or.inl e
             · exact Or.inr (Or.inl e)
             · exact Or.inr (Or.inr (Or.inl e))
            have nDb : ¬ Duo.has (⟨tri b1 b2 b3,tri c1 c2 c3,tri (rs.map Rc.h) (rs.map Rc.w) (rs.map Rc.o),H1,ownx,Z,Bz⟩ : Duo) Db:=fun h=>by have:=HDG.out _ (hasG _ h);omega
            have nXb : ¬ Duo.has (⟨tri b1 b2 b3,tri c1 c2 c3,tri (rs.map Rc.h) (rs.map Rc.w) (rs.map Rc.o),H1,ownx,Z,Bz⟩ : Duo) Xb:=fun h=>by have:=HXG.out _ (hasG _ h);omega
            have HAS : Hid (∀ b,Duo.has (⟨tri b1 b2 b3,tri c1 c2 c3,tri (rs.map Rc.h) (rs.map Rc.w) (rs.map Rc.o),H1,ownx,Z,Bz⟩ : Duo) b -> Gh rs b1 b2 b3 b):=hasG
            have HRW0 : Hid (Rw W.drew (duoT 0) (Duo.b (⟨tri b1 b2 b3,tri c1 c2 c3,tri (rs.map Rc.h) (rs.map Rc.w) (rs.map Rc.o),H1,ownx,Z,Bz⟩ : Duo) 0) (Duo.c (⟨tri b1 b2 b3,tri c1 c2 c3,tri (rs.map Rc.h) (rs.map Rc.w) (rs.map Rc.o),H1,ownx,Z,Bz⟩ : Duo) 0) (Duo.l (⟨tri b1 b2 b3,tri c1 c2 c3,tri (rs.map Rc.h) (rs.map Rc.w) (rs.map Rc.o),H1,ownx,Z,Bz⟩ : Duo) 0)):=G5d.r1
            have HRW1 : Hid (Rw W.drew (duoT 1) (Duo.b (⟨tri b1 b2 b3,tri c1 c2 c3,tri (rs.map Rc.h) (rs.map Rc.w) (rs.map Rc.o),H1,ownx,Z,Bz⟩ : Duo) 1) (Duo.c (⟨tri b1 b2 b3,tri c1 c2 c3,tri (rs.map Rc.h) (rs.map Rc.w) (rs.map Rc.o),H1,ownx,Z,Bz⟩ : Duo) 1) (Duo.l (⟨tri b1 b2 b3,tri c1 c2 c3,tri (rs.map Rc.h) (rs.map Rc.w) (rs.map Rc.o),H1,ownx,Z,Bz⟩ : Duo) 1)):=G5d.r2
            have HRW2 : Hid (Rw W.drew (duoT 2) (Duo.b (⟨tri b1 b2 b3,tri c1 c2 c3,tri (rs.map Rc.h) (rs.map Rc.w) (rs.map Rc.o),H1,ownx,Z,Bz⟩ : Duo) 2) (Duo.c (⟨tri b1 b2 b3,tri c1 c2 c3,tri (rs.map Rc.h) (rs.map Rc.w) (rs.map Rc.o),H1,ownx,Z,Bz⟩ : Duo) 2) (Duo.l (⟨tri b1 b2 b3,tri c1 c2 c3,tri (rs.map Rc.h) (rs.map Rc.w) (rs.map Rc.o),H1,ownx,Z,Bz⟩ : Duo) 2)):=G5d.r3
            have HGd : Hid (Grid w W.drew L E rs D b1 c1 b2 c2 b3 c3):=G5d
            have HFd : Hid (Hut w W.drew L E 1 6 8 40 s' σ' q' nx' gen (oo :: ls)):=HF5.out.drew
            have hBd : W.drew.heap.size = Bz:=hBz
            have hrl : rs.length <= 80:=by have:=HSH0.out.len;omega
            clear G5d hasG HF5 HG5
            refine wp_region_relyX_tail (Keep2 (⟨tri b1 b2 b3,tri c1 c2 c3,tri (rs.map Rc.h) (rs.map Rc.w) (rs.map Rc.o),H1,ownx,Z,Bz⟩ : Duo)) noJ 16 [.val (.slice (some ⟨b1,0,none⟩) rs.length c1),.val (.pointer (some ⟨Db,1,none⟩)),.val (.int .u64 H1),.that (Duo.boxd (⟨tri b1 b2 b3,tri c1 c2 c3,tri (rs.map Rc.h) (rs.map Rc.w) (rs.map Rc.o),H1,ownx,Z,Bz⟩ : Duo) 0) (Duo.boxd_stays hf2),.that (Duo.grew (⟨tri b1 b2 b3,tri c1 c2 c3,tri (rs.map Rc.h) (rs.map Rc.w) (rs.map Rc.o),H1,ownx,Z,Bz⟩ : Duo) 0) (Duo.grew_stays (by decide) hf2),.val (.slice (some ⟨b2,0,none⟩) rs.length c2),.val (.pointer (some ⟨Xb,1,none⟩)),.val (.int .i64 Z),.that (Duo.ph (⟨tri b1 b2 b3,tri c1 c2 c3,tri (rs.map Rc.h) (rs.map Rc.w) (rs.map Rc.o),H1,ownx,Z,Bz⟩ : Duo) 1) (Duo.ph_keep hf2),.that (Duo.boxd (⟨tri b1 b2 b3,tri c1 c2 c3,tri (rs.map Rc.h) (rs.map Rc.w) (rs.map Rc.o),H1,ownx,Z,Bz⟩ : Duo) 1) (Duo.boxd_stays hf2),.that (Duo.grew (⟨tri b1 b2 b3,tri c1 c2 c3,tri (rs.map Rc.h) (rs.map Rc.w) (rs.map Rc.o),H1,ownx,Z,Bz⟩ : Duo) 1) (Duo.grew_stays (by decide) hf2),.val (.slice (some ⟨b3,0,none⟩) rs.length c3),.val (.pointer (some ⟨Xb,6,none⟩)),.val (.bool ownx),.that (Duo.boxd (⟨tri b1 b2 b3,tri c1 c2 c3,tri (rs.map Rc.h) (rs.map Rc.w) (rs.map Rc.o),H1,ownx,Z,Bz⟩ : Duo) 2) (Duo.boxd_stays hf2),.that (Duo.grew (⟨tri b1 b2 b3,tri c1 c2 c3,tri (rs.map Rc.h) (rs.map Rc.w) (rs.map Rc.o),H1,ownx,Z,Bz⟩ : Duo) 2) (Duo.grew_stays (by decide) hf2)] (by kernel_rfl) Keep2.refl Keep2.trans (by decide) (by kernel_rfl) (by kernel_rfl) (by kernel_rfl) (by kernel_rfl) (by kernel_rfl) (by kernel_rfl) trivial ?_
            simp only [List.take_succ_cons,List.take_zero,relyAllX,Act.put,List.setIfInBounds_toArray,List.set_cons_zero,List.set_cons_succ]
            refine ⟨?_,?_,?_,?_,fun v3=>⟨?_,fun v4=>⟨?_,?_,?_,?_,fun v8=>⟨?_,fun v9=>⟨?_,fun v10=>⟨?_,?_,?_,?_,fun v14=>⟨?_,fun v15=>?_⟩⟩⟩⟩⟩⟩⟩
            · intro w' l hg hf hJ hl hp
              apply ol
              go_simp
              exact ⟨Keep2.refl _,rfl,trivial⟩
            · intro w' l hg hf hJ hl hp
              apply ol
              go_simp
              exact ⟨Keep2.refl _,rfl,trivial⟩
            · intro w' l hg hf hJ hl hp
              apply ol
              have z:=hg.only.keep (b:=Db) nDb hD5
              go_simp
              exact ⟨Keep2.refl _,rfl,trivial⟩
            · intro w' l hg hf hJ hl hp
              apply ol
              have hz : Bz <= w'.heap.size:=by have:=hg.only.size;have e : W.drew.heap.size = W.heap.size:=rfl;omega
              go_simp
              exact ⟨Keep2.grown hf2 (grow_alloc (Below.refl _ _) _),⟨_,_,rfl,hz,rfl,by simp⟩,trivial⟩
            · intro w' l hg hf hJ hl hp
              apply ol
              have hz : Bz <= w'.heap.size:=by have:=hg.only.size;have e : W.drew.heap.size = W.heap.size:=rfl;omega
              have f0:=hf.1 (by kernel_rfl)
              clear hf
              obtain ⟨v',w4',hrun,hk,hgr⟩:=Duo.app (F:=(⟨tri b1 b2 b3,tri c1 c2 c3,tri (rs.map Rc.h) (rs.map Rc.w) (rs.map Rc.o),H1,ownx,Z,Bz⟩ : Duo)) (a:=0) (by decide) hf2 hne0 Tryz.underlying31 Tryz.infoR34 rfl (by decide) HRW0.out hg f0 (by show (rs.map Rc.h).length <= 1000;simp;omega) hz 31 rfl rfl (by show (rs.map Rc.h).length = rs.length;simp)
              exact rely_append2 (.tmp 138) (.tmp 141) rfl rfl rfl hrun hk ⟨hgr,trivial⟩
            · intro w' l hg hf hJ hl hp
              apply ol
              go_simp
              exact ⟨Keep2.refl _,rfl,trivial⟩
            · intro w' l hg hf hJ hl hp
              apply ol
              go_simp
              exact ⟨Keep2.refl _,rfl,trivial⟩
            · intro w' l hg hf hJ hl hp
              apply ol
              have z:=hg.only.keep (b:=Xb) nXb hX1
              go_simp
              exact ⟨Keep2.refl _,rfl,trivial⟩
            · intro w' l hg hf hJ hl hp
              apply ol
              have hz : Bz <= w'.heap.size:=by have:=hg.only.size;have e : W.drew.heap.size = W.heap.size:=rfl;omega
              have hmk:=run_make_row' (P:=Tryz.prog) 43 3 (.int .i64 0) 8 Tryz.underlying43 Tryz.infoR3 rfl .i64 .i64 Z (by omega) (by omega)
              have hr:=World.rowIs_made w' (.int .i64 0) Z 3
              go_simp
              exact ⟨Keep2.grown hf2 (grow_alloc (Below.refl _ _) _),⟨_,rfl,hz,hr⟩,trivial⟩
            · intro w' l hg hf hJ hl hp
              apply ol
              have hz : Bz <= w'.heap.size:=by have:=hg.only.size;have e : W.drew.heap.size = W.heap.size:=rfl;omega
              obtain ⟨g,rfl,h1,h2⟩:=hf.1 (by kernel_rfl)
              have h3:=grow1 w' (.cells #[.slice (some ⟨g,0,none⟩) Z Z] 43)
              clear hf
              go_simp
              exact ⟨Keep2.grown hf2 h3,⟨_,_,rfl,hz,⟨g,rfl,h1,h2.of_block (h3.block _ h2.lt)⟩,by simp⟩,trivial⟩
            · intro w' l hg hf hJ hl hp
              apply ol
              have hz : Bz <= w'.heap.size:=by have:=hg.only.size;have e : W.drew.heap.size = W.heap.size:=rfl;omega
              have f0:=hf.1 (by kernel_rfl)
              clear hf
              obtain ⟨v',w4',hrun,hk,hgr⟩:=Duo.app (F:=(⟨tri b1 b2 b3,tri c1 c2 c3,tri (rs.map Rc.h) (rs.map Rc.w) (rs.map Rc.o),H1,ownx,Z,Bz⟩ : Duo)) (a:=1) (by decide) hf2 hne1 Tryz.underlying32 Tryz.infoR43 rfl (by decide) HRW1.out hg f0 (by show (rs.map Rc.w).length <= 1000;simp;omega) hz 32 rfl rfl (by show (rs.map Rc.w).length = rs.length;simp)
              exact rely_append2 (.tmp 143) (.tmp 147) rfl rfl rfl hrun hk ⟨hgr,trivial⟩
            · intro w' l hg hf hJ hl hp
              apply ol
              go_simp
              exact ⟨Keep2.refl _,rfl,trivial⟩
            · intro w' l hg hf hJ hl hp
              apply ol
              go_simp
              exact ⟨Keep2.refl _,rfl,trivial⟩
            · intro w' l hg hf hJ hl hp
              apply ol
              have z:=hg.only.keep (b:=Xb) nXb hX6
              go_simp
              exact ⟨Keep2.refl _,rfl,trivial⟩
            · intro w' l hg hf hJ hl hp
              apply ol
              have hz : Bz <= w'.heap.size:=by have:=hg.only.size;have e : W.drew.heap.size = W.heap.size:=rfl;omega
              go_simp
              exact ⟨Keep2.grown hf2 (grow_alloc (Below.refl _ _) _),⟨_,_,rfl,hz,rfl,by simp⟩,trivial⟩
            · intro w' l hg hf hJ hl hp
              apply ol
              have hz : Bz <= w'.heap.size:=by have:=hg.only.size;have e : W.drew.heap.size = W.heap.size:=rfl;omega
              have f0:=hf.1 (by kernel_rfl)
              clear hf
              obtain ⟨v',w4',hrun,hk,hgr⟩:=Duo.app (F:=(⟨tri b1 b2 b3,tri c1 c2 c3,tri (rs.map Rc.h) (rs.map Rc.w) (rs.map Rc.o),H1,ownx,Z,Bz⟩ : Duo)) (a:=2) (by decide) hf2 hne2 Tryz.underlying33 Tryz.infoR4 rfl (by decide) HRW2.out hg f0 (by show (rs.map Rc.o).length <= 1000;simp;omega) hz 33 rfl rfl (by show (rs.map Rc.o).length = rs.length;simp)
              exact rely_append2 (.tmp 149) (.tmp 152) rfl rfl rfl hrun hk ⟨hgr,trivial⟩
            intro w9 hg hf hJ
            obtain ⟨g15,-,g10,-,-,g4,-⟩:=hf
            obtain ⟨bo,b1',c1',b2',c2',b3',c3',rfl,rfl,rfl,G6⟩:=HGd.out.grew HFd.out.ltE HFd.out.b.size (fun b hb=>HFd.out.mm.lt b hb) (F:=(⟨tri b1 b2 b3,tri c1 c2 c3,tri (rs.map Rc.h) (rs.map Rc.w) (rs.map Rc.o),H1,ownx,Z,Bz⟩ : Duo)) (x:=oo.x) (g:=oo.g) rfl rfl rfl rfl rfl rfl HH1.out hBd.symm (HSH0.out.dz _ (Nat.le_refl _)) hg g4 g10 g15
            have f6 : Hut w w9 L E 1 6 8 40 s' σ' q' nx' gen (oo :: ls):=HFd.out.only hg.only (fun x hx hs=>(HGd.out.lone (HAS.out _ hs)).l hx) (fun hs=>(HGd.out.lone (HAS.out _ hs)).e rfl) (fun x hs=>(HGd.out.lone (HAS.out _ hs)).p)
            have HF6 : Hid (Hut w w9 L E 1 6 8 40 s' σ' q' nx' gen (oo :: ls)):=f6
            have HG6 : Hid (Grid w w9 L E (rs ++ [(⟨oo.x,oo.g,Z,ownx,true,bo⟩ : Rc)]) D b1' c1' b2' c2' b3' c3'):=G6
            have HS6 : Hid (Shelf 6 (j + 1) q' gen (oo :: ls) (rs ++ [(⟨oo.x,oo.g,Z,ownx,true,bo⟩ : Rc)]) D):=by
             have e1 : oo.Z = Z:=by have:=HOZZ.out;have:=HZx.out;omega
             have:=HSHM.out HTM9.out bo
             rwa [e1,HOW.out] at this
            clear f6 G6 g15 g10 g4 hg hD5 hX1 hX6 hf2 h12 h13 h23 hne0 hne1 hne2 nDb nXb HRW0 HRW1 HRW2 HGd HFd hBd hBz hJ
            go_wp2
            go_roundw
            case rel=>exact ⟨j + 1,s',σ',q',nx',gen,(oo :: ls),rs ++ [(⟨oo.x,oo.g,Z,ownx,true,bo⟩ : Rc)],D,b1',c1',b2',c2',b3',c3',by simp,by simp,by simp,by go_num,by omega,by have:=HS1.out;have:=HSG.out;omega,HF6.out,HG6.out,HS6.out⟩
            case measure=>simp [intOf];omega
          | dead h=>exact absurd rfl h
          | gone h=>exact absurd h (by show ¬ (1 : Int) = 2;decide)
          | index h=>exact absurd h (by show ¬ (3 : Int) <= 1;decide)
          | read h=>exact absurd h (by show ¬ (3 : Int) <= 1;decide)
          | other h=>exact absurd h (by show ¬ (3 : Int) <= 1;decide)
          | laid h=>exact absurd h (by show ¬ (3 : Int) <= 1;decide)
        · have hr1 : decide ((0 : Int) < ((rs.length : Nat) : Int)) = true:=decide_eq_true (by omega)
          have hr2 : decide (0 < rs.length) = true:=decide_eq_true (by omega)
          have HR0 : Hid (¬ rs.length = 0):=hr0
          clear hr0
          obtain rfl : kx = 1:=hk1
          obtain ⟨E0,H0,V0,q',nx',gen',ls',O,hdo⟩:=hY ux hyn
          have lc:=fun w=>lclass_any sx w
          have HSH0 : Hid (Shelf 6 j q gen ls rs D):=HSH.out
          cases O with
          | size h hz =>
           have HZ0 : Hid (classOf sx < 0):=hz
           have HSH : Hid (Shelf 6 (j + 1) q gen ls rs D):=HSH0.out.keep (fun _ _ _ _=>rfl)
           clear h hz hY
           as_aux_lemma =>
            have hcl : decide (classOf sx < 0) = true:=decide_eq_true HZ0.out
            go_wp2_with (first
             | (go_at_call 11;refine (ycut _).mono ?_;rintro e w3 ⟨rfl,g3⟩;have f3:=HF.out.grown g3;have G3:=HG.out.grown g3;have e0:=(fun O=>alloc_cell f3.v.c0 O);have e1:=(fun O=>alloc_cell f3.v.c1 O);have e2:=(fun O=>alloc_cell f3.v.c2 O);have e3:=(fun O=>alloc_cell f3.v.c3 O);have e4:=(fun O=>alloc_cell f3.v.c4 O);have e5:=(fun O=>alloc_cell f3.v.c5 O);have e6:=(fun O=>alloc_cell f3.v.c6 O);have e7:=(fun O=>alloc_cell f3.v.c7 O);have e8:=(fun O=>alloc_cell f3.v.c8 O))
             | (go_at_call 12;refine (hdo _ (f3.alloc (.cells #[.int .i64 1,.int .i64 sx,.int .u64 ux,.int .i64 ix,.int .i64 vx,.int .i64 ox,.bool ownx] 36))).mono ?_;rintro e w5 ⟨St,s',σ',rfl,hs1,-,-,-,f5',o5⟩;clear e0 e1 e2 e3 e4 e5 e6 e7 e8 hdo;have GB5:=grow1 w5 (.cells #[.int .i64 5,.int .u64 0,.int .i64 0,.int .i64 St] 40);have f5:=f5'.grown GB5;have G5:=((G3.grown (grow1 w3 (.cells #[.int .i64 1,.int .i64 sx,.int .u64 ux,.int .i64 ix,.int .i64 vx,.int .i64 ox,.bool ownx] 36))).mem o5).grown GB5;have xA:=((At.new w3 36 [.int .i64 1,.int .i64 sx,.int .u64 ux,.int .i64 ix,.int .i64 vx,.int .i64 ox,.bool ownx]).only o5 f3.ltL).grown GB5;have dN:=At.new w5 40 [.int .i64 5,.int .u64 0,.int .i64 0,.int .i64 St];have hXD : w3.heap.size < w5.heap.size:=((At.new w3 36 [.int .i64 1,.int .i64 sx,.int .u64 ux,.int .i64 ix,.int .i64 vx,.int .i64 ox,.bool ownx]).only o5 f3.ltL).lt;have hXG:=(fun b hb=>(G3.lt (b:=b) hb));have hDG:=(fun b hb=>((G3.grown (grow1 w3 (.cells #[.int .i64 1,.int .i64 sx,.int .u64 ux,.int .i64 ix,.int .i64 vx,.int .i64 ox,.bool ownx] 36))).mem o5).lt (b:=b) hb);have x0:=xA.at0 0 rfl;have x1:=xA.at0 1 rfl;have x3:=xA.at0 3 rfl;have x4:=xA.at0 4 rfl;have x5:=xA.at0 5 rfl;have x6:=xA.at0 6 rfl;have d0:=dN.at0 0 rfl;have d1:=dN.at0 1 rfl;have d2:=dN.at0 2 rfl)
             | (go_at_call 13;refine (lc _).mono ?_;rintro e w6 ⟨rfl,rfl⟩))
            have HS1 : Hid (σ' <= σ + 500):=hs1
            have HF5 : Hid (Hut w _ L E 1 6 8 40 s' σ' q nx gen ls):=f5
            have HG5 : Hid (Grid w _ L E rs D b1 c1 b2 c2 b3 c3):=G5
            go_roundw
            case rel=>exact ⟨j + 1,s',σ',q,nx,gen,ls,rs,D,b1,c1,b2,c2,b3,c3,rfl,rfl,rfl,by go_num,by omega,by have:=HS1.out;have:=HSG.out;omega,HF5.out,HG5.out,HSH.out⟩
            case measure=>simp [intOf];omega
          | empty h hz hF' =>
           have HZ0 : Hid (0 <= classOf sx):=hz
           have HSH : Hid (Shelf 6 (j + 1) q gen ls rs D):=HSH0.out.keep (fun _ _ _ _=>rfl)
           clear h hz hF' hY
           as_aux_lemma =>
            have hcl : decide (classOf sx < 0) = false:=decide_eq_false (by have:=HZ0.out;omega)
            go_wp2_with (first
             | (go_at_call 11;refine (ycut _).mono ?_;rintro e w3 ⟨rfl,g3⟩;have f3:=HF.out.grown g3;have G3:=HG.out.grown g3;have e0:=(fun O=>alloc_cell f3.v.c0 O);have e1:=(fun O=>alloc_cell f3.v.c1 O);have e2:=(fun O=>alloc_cell f3.v.c2 O);have e3:=(fun O=>alloc_cell f3.v.c3 O);have e4:=(fun O=>alloc_cell f3.v.c4 O);have e5:=(fun O=>alloc_cell f3.v.c5 O);have e6:=(fun O=>alloc_cell f3.v.c6 O);have e7:=(fun O=>alloc_cell f3.v.c7 O);have e8:=(fun O=>alloc_cell f3.v.c8 O))
             | (go_at_call 12;refine (hdo _ (f3.alloc (.cells #[.int .i64 1,.int .i64 sx,.int .u64 ux,.int .i64 ix,.int .i64 vx,.int .i64 ox,.bool ownx] 36))).mono ?_;rintro e w5 ⟨St,s',σ',rfl,hs1,-,-,-,f5',o5⟩;clear e0 e1 e2 e3 e4 e5 e6 e7 e8 hdo;have GB5:=grow1 w5 (.cells #[.int .i64 7,.int .u64 0,.int .i64 0,.int .i64 St] 40);have f5:=f5'.grown GB5;have G5:=((G3.grown (grow1 w3 (.cells #[.int .i64 1,.int .i64 sx,.int .u64 ux,.int .i64 ix,.int .i64 vx,.int .i64 ox,.bool ownx] 36))).mem o5).grown GB5;have xA:=((At.new w3 36 [.int .i64 1,.int .i64 sx,.int .u64 ux,.int .i64 ix,.int .i64 vx,.int .i64 ox,.bool ownx]).only o5 f3.ltL).grown GB5;have dN:=At.new w5 40 [.int .i64 7,.int .u64 0,.int .i64 0,.int .i64 St];have hXD : w3.heap.size < w5.heap.size:=((At.new w3 36 [.int .i64 1,.int .i64 sx,.int .u64 ux,.int .i64 ix,.int .i64 vx,.int .i64 ox,.bool ownx]).only o5 f3.ltL).lt;have hXG:=(fun b hb=>(G3.lt (b:=b) hb));have hDG:=(fun b hb=>((G3.grown (grow1 w3 (.cells #[.int .i64 1,.int .i64 sx,.int .u64 ux,.int .i64 ix,.int .i64 vx,.int .i64 ox,.bool ownx] 36))).mem o5).lt (b:=b) hb);have x0:=xA.at0 0 rfl;have x1:=xA.at0 1 rfl;have x3:=xA.at0 3 rfl;have x4:=xA.at0 4 rfl;have x5:=xA.at0 5 rfl;have x6:=xA.at0 6 rfl;have d0:=dN.at0 0 rfl;have d1:=dN.at0 1 rfl;have d2:=dN.at0 2 rfl)
             | (go_at_call 13;refine (lc _).mono ?_;rintro e w6 ⟨rfl,rfl⟩))
            have HS1 : Hid (σ' <= σ + 500):=hs1
            have HF5 : Hid (Hut w _ L E 1 6 8 40 s' σ' q nx gen ls):=f5
            have HG5 : Hid (Grid w _ L E rs D b1 c1 b2 c2 b3 c3):=G5
            go_roundw
            case rel=>exact ⟨j + 1,s',σ',q,nx,gen,ls,rs,D,b1,c1,b2,c2,b3,c3,rfl,rfl,rfl,by go_num,by omega,by have:=HS1.out;have:=HSG.out;omega,HF5.out,HG5.out,HSH.out⟩
            case measure=>simp [intOf];omega
          | full h hz x F hF' hk =>
           have HZ0 : Hid (0 <= classOf sx):=hz
           have HSH : Hid (Shelf 6 (j + 1) (q.back x F q.y) gen ls rs D):=HSH0.out.keep (fun _ _ _ _=>rfl)
           clear h hz hF' hk hY
           generalize q.back x F q.y = q' at hdo HSH
           as_aux_lemma =>
            have hcl : decide (classOf sx < 0) = false:=decide_eq_false (by have:=HZ0.out;omega)
            go_wp2_with (first
             | (go_at_call 11;refine (ycut _).mono ?_;rintro e w3 ⟨rfl,g3⟩;have f3:=HF.out.grown g3;have G3:=HG.out.grown g3;have e0:=(fun O=>alloc_cell f3.v.c0 O);have e1:=(fun O=>alloc_cell f3.v.c1 O);have e2:=(fun O=>alloc_cell f3.v.c2 O);have e3:=(fun O=>alloc_cell f3.v.c3 O);have e4:=(fun O=>alloc_cell f3.v.c4 O);have e5:=(fun O=>alloc_cell f3.v.c5 O);have e6:=(fun O=>alloc_cell f3.v.c6 O);have e7:=(fun O=>alloc_cell f3.v.c7 O);have e8:=(fun O=>alloc_cell f3.v.c8 O))
             | (go_at_call 12;refine (hdo _ (f3.alloc (.cells #[.int .i64 1,.int .i64 sx,.int .u64 ux,.int .i64 ix,.int .i64 vx,.int .i64 ox,.bool ownx] 36))).mono ?_;rintro e w5 ⟨St,s',σ',rfl,hs1,-,-,-,f5',o5⟩;clear e0 e1 e2 e3 e4 e5 e6 e7 e8 hdo;have GB5:=grow1 w5 (.cells #[.int .i64 6,.int .u64 0,.int .i64 0,.int .i64 St] 40);have f5:=f5'.grown GB5;have G5:=((G3.grown (grow1 w3 (.cells #[.int .i64 1,.int .i64 sx,.int .u64 ux,.int .i64 ix,.int .i64 vx,.int .i64 ox,.bool ownx] 36))).mem o5).grown GB5;have xA:=((At.new w3 36 [.int .i64 1,.int .i64 sx,.int .u64 ux,.int .i64 ix,.int .i64 vx,.int .i64 ox,.bool ownx]).only o5 f3.ltL).grown GB5;have dN:=At.new w5 40 [.int .i64 6,.int .u64 0,.int .i64 0,.int .i64 St];have hXD : w3.heap.size < w5.heap.size:=((At.new w3 36 [.int .i64 1,.int .i64 sx,.int .u64 ux,.int .i64 ix,.int .i64 vx,.int .i64 ox,.bool ownx]).only o5 f3.ltL).lt;have hXG:=(fun b hb=>(G3.lt (b:=b) hb));have hDG:=(fun b hb=>((G3.grown (grow1 w3 (.cells #[.int .i64 1,.int .i64 sx,.int .u64 ux,.int .i64 ix,.int .i64 vx,.int .i64 ox,.bool ownx] 36))).mem o5).lt (b:=b) hb);have x0:=xA.at0 0 rfl;have x1:=xA.at0 1 rfl;have x3:=xA.at0 3 rfl;have x4:=xA.at0 4 rfl;have x5:=xA.at0 5 rfl;have x6:=xA.at0 6 rfl;have d0:=dN.at0 0 rfl;have d1:=dN.at0 1 rfl;have d2:=dN.at0 2 rfl)
             | (go_at_call 13;refine (lc _).mono ?_;rintro e w6 ⟨rfl,rfl⟩))
            have HS1 : Hid (σ' <= σ + 500):=hs1
            have HF5 : Hid (Hut w _ L E 1 6 8 40 s' σ' q' nx gen ls):=f5
            have HG5 : Hid (Grid w _ L E rs D b1 c1 b2 c2 b3 c3):=G5
            go_roundw
            case rel=>exact ⟨j + 1,s',σ',q',nx,gen,ls,rs,D,b1,c1,b2,c2,b3,c3,rfl,rfl,rfl,by go_num,by omega,by have:=HS1.out;have:=HSG.out;omega,HF5.out,HG5.out,HSH.out⟩
            case measure=>simp [intOf];omega
          | made h hz oo q' nx' hZ how hF' hg h0 hkp hn =>
           have HZ0 : Hid (0 <= classOf sx):=hz
           have HOZZ : Hid (sx = (oo.Z : Int)):=hZ
           have HOW : Hid (oo.own = ownx):=how
           have C':=HTM.out
           obtain ⟨oZ,hoZ⟩ : ∃ z : Nat,z = oo.Z:=⟨_,rfl⟩
           have HOZ : Hid (sx = (oZ : Int)):=by rw [hoZ];exact hZ
           have HOZ2 : Hid (oZ <= 16):=by
            have h1 : 0 <= classOf sx:=hz
            have h2 : sx = (oZ : Int):=HOZ.out
            unfold classOf at h1
            have : oZ <= 16:=by omega
            exact this
           have HSHM : Hid (∀ C' : Tame 1 6 8 40 q' nx' gen (oo :: ls),∀ b,Shelf 6 (j + 1) q' gen (oo :: ls) (rs ++ [⟨oo.x,oo.g,oo.Z,oo.own,true,b⟩]) D):=fun C' b=>HSH0.out.made HTM.out C' hF' h0 hkp b
           obtain ⟨H1,hH1⟩ : ∃ H1,packH oo.x oo.g = H1:=⟨_,rfl⟩
           have HH1 : Hid (H1 = packH oo.x oo.g):=hH1.symm
           rw [hH1] at hdo
           clear h hz hZ how hF' hg h0 hkp hn hH1 hoZ C' hY
           as_aux_lemma =>
            have hcl : decide (classOf sx < 0) = false:=decide_eq_false (by have:=HZ0.out;omega)
            go_wp2_with (first
             | (go_at_call 11;refine (ycut _).mono ?_;rintro e w3 ⟨rfl,g3⟩;have f3:=HF.out.grown g3;have G3:=HG.out.grown g3;have e0:=(fun O=>alloc_cell f3.v.c0 O);have e1:=(fun O=>alloc_cell f3.v.c1 O);have e2:=(fun O=>alloc_cell f3.v.c2 O);have e3:=(fun O=>alloc_cell f3.v.c3 O);have e4:=(fun O=>alloc_cell f3.v.c4 O);have e5:=(fun O=>alloc_cell f3.v.c5 O);have e6:=(fun O=>alloc_cell f3.v.c6 O);have e7:=(fun O=>alloc_cell f3.v.c7 O);have e8:=(fun O=>alloc_cell f3.v.c8 O))
             | (go_at_call 12;refine (hdo _ (f3.alloc (.cells #[.int .i64 1,.int .i64 sx,.int .u64 ux,.int .i64 ix,.int .i64 vx,.int .i64 ox,.bool ownx] 36))).mono ?_;rintro e w5 ⟨St,s',σ',rfl,hs1,-,-,-,f5',o5⟩;clear e0 e1 e2 e3 e4 e5 e6 e7 e8 hdo;have GB5:=grow1 w5 (.cells #[.int .i64 0,.int .u64 H1,.int .i64 0,.int .i64 St] 40);have f5:=f5'.grown GB5;have G5:=((G3.grown (grow1 w3 (.cells #[.int .i64 1,.int .i64 sx,.int .u64 ux,.int .i64 ix,.int .i64 vx,.int .i64 ox,.bool ownx] 36))).mem o5).grown GB5;have xA:=((At.new w3 36 [.int .i64 1,.int .i64 sx,.int .u64 ux,.int .i64 ix,.int .i64 vx,.int .i64 ox,.bool ownx]).only o5 f3.ltL).grown GB5;have dN:=At.new w5 40 [.int .i64 0,.int .u64 H1,.int .i64 0,.int .i64 St];have hXD : w3.heap.size < w5.heap.size:=((At.new w3 36 [.int .i64 1,.int .i64 sx,.int .u64 ux,.int .i64 ix,.int .i64 vx,.int .i64 ox,.bool ownx]).only o5 f3.ltL).lt;have hXG:=(fun b hb=>(G3.lt (b:=b) hb));have hDG:=(fun b hb=>((G3.grown (grow1 w3 (.cells #[.int .i64 1,.int .i64 sx,.int .u64 ux,.int .i64 ix,.int .i64 vx,.int .i64 ox,.bool ownx] 36))).mem o5).lt (b:=b) hb);have x0:=xA.at0 0 rfl;have x1:=xA.at0 1 rfl;have x3:=xA.at0 3 rfl;have x4:=xA.at0 4 rfl;have x5:=xA.at0 5 rfl;have x6:=xA.at0 6 rfl;have d0:=dN.at0 0 rfl;have d1:=dN.at0 1 rfl;have d2:=dN.at0 2 rfl)
             | (go_at_call 13;refine (lc _).mono ?_;rintro e w6 ⟨rfl,rfl⟩))
            have HS1 : Hid (σ' <= σ + 500):=hs1
            obtain ⟨Xb,hXb⟩ : ∃ X,w3.heap.size = X:=⟨_,rfl⟩
            obtain ⟨Db,hDb⟩ : ∃ X,w5.heap.size = X:=⟨_,rfl⟩
            have HXG : Hid (∀ b,Gh rs b1 b2 b3 b -> b < Xb):=by rw [<- hXb];exact hXG
            have HDG : Hid (∀ b,Gh rs b1 b2 b3 b -> b < Db):=by rw [<- hDb];exact hDG
            rw [hXb] at xA hXD ⊢
            rw [hDb] at dN hXD ⊢
            have HXD : Hid (Xb < Db):=hXD
            refine wp_over (fun W=>Hut w W L E 1 6 8 40 s' σ' q' nx' gen (oo :: ls) /\ Grid w W L E rs D b1 c1 b2 c2 b3 c3 /\ At W Xb 0 36 _ [.int .i64 1,.int .i64 sx,.int .u64 ux,.int .i64 ix,.int .i64 vx,.int .i64 ox,.bool ownx] /\ At W Db 0 40 _ [.int .i64 0,.int .u64 H1,.int .i64 0,.int .i64 St]) ⟨f5,G5,xA,dN⟩ ?_
            clear f3 G3 f5' f5 G5 xA dN hXb hDb hXD hXG hDG o5 HF HG x0 x1 x3 x4 x5 x6 d0 d1 d2
            rintro W ⟨f5,G5,xA,dN⟩
            have HF5 : Hid (Hut w W L E 1 6 8 40 s' σ' q' nx' gen (oo :: ls)):=f5
            have HG5 : Hid (Grid w W L E rs D b1 c1 b2 c2 b3 c3):=G5
            clear hs1
            have x0:=xA.at0 0 rfl
            have x1:=xA.at0 1 rfl
            have x3:=xA.at0 3 rfl
            have x4:=xA.at0 4 rfl
            have x5:=xA.at0 5 rfl
            have x6:=xA.at0 6 rfl
            have d0:=dN.at0 0 rfl
            have d1:=dN.at0 1 rfl
            have d2:=dN.at0 2 rfl
            clear f5 G5 xA dN
            have HTM9 : Hid (Tame 1 6 8 40 q' nx' gen (oo :: ls)):=HF5.out.tm
            have G5d:=HG5.out.grown ((Below.refl W.heap.size W).drew)
            obtain ⟨Bz,hBz⟩ : ∃ B,W.heap.size = B:=⟨_,rfl⟩
            have hD5 : W.cell? ⟨Db,1,none⟩ = some (.int .u64 H1):=d1
            obtain ⟨Z,hZx⟩ : ∃ Z : Nat,sx = (Z : Int):=⟨oZ,HOZ.out⟩
            have HZx : Hid (sx = (Z : Int)):=hZx
            have hX1 : W.cell? ⟨Xb,1,none⟩ = some (.int .i64 (Z : Int)):=by rw [<- hZx];exact x1
            have hX6 : W.cell? ⟨Xb,6,none⟩ = some (.bool ownx):=x6
            have hZ16 : Z <= 16:=by have:=HOZ2.out;have:=HOZ.out;omega
            clear hZx x0 x1 x3 x4 x5 x6 d0 d1 d2 hcl lc
            have hf2 : ∀ a,a < 3 -> Duo.b (⟨tri b1 b2 b3,tri c1 c2 c3,tri (rs.map Rc.h) (rs.map Rc.w) (rs.map Rc.o),H1,ownx,Z,Bz⟩ : Duo) a < Bz:=by
             intro a ha
             have : a = 0 \/ a = 1 \/ a = 2:=by omega
             rcases this with rfl | rfl | rfl
             · rw [<- hBz];exact HG5.out.r1.lt
             · rw [<- hBz];exact HG5.out.r2.lt
             · rw [<- hBz];exact HG5.out.r3.lt
            have h12 : b1 ≠ b2:=HG5.out.r1.ne HG5.out.r2 (by decide)
            have h13 : b1 ≠ b3:=HG5.out.r1.ne HG5.out.r3 (by decide)
            have h23 : b2 ≠ b3:=HG5.out.r2.ne HG5.out.r3 (by decide)
            have hne0 : ∀ a',a' < 3 -> a' ≠ 0 -> Duo.b (⟨tri b1 b2 b3,tri c1 c2 c3,tri (rs.map Rc.h) (rs.map Rc.w) (rs.map Rc.o),H1,ownx,Z,Bz⟩ : Duo) a' ≠ Duo.b (⟨tri b1 b2 b3,tri c1 c2 c3,tri (rs.map Rc.h) (rs.map Rc.w) (rs.map Rc.o),H1,ownx,Z,Bz⟩ : Duo) 0:=fun a' h1 h2=>by
             have : a' = 1 \/ a' = 2:=by omega
             rcases this with rfl | rfl
             · exact h12.symm
             · exact h13.symm
            have hne1 : ∀ a',a' < 3 -> a' ≠ 1 -> Duo.b (⟨tri b1 b2 b3,tri c1 c2 c3,tri (rs.map Rc.h) (rs.map Rc.w) (rs.map Rc.o),H1,ownx,Z,Bz⟩ : Duo) a' ≠ Duo.b (⟨tri b1 b2 b3,tri c1 c2 c3,tri (rs.map Rc.h) (rs.map Rc.w) (rs.map Rc.o),H1,ownx,Z,Bz⟩ : Duo) 1:=fun a' h1 h2=>by
             have : a' = 0 \/ a' = 2:=by omega
             rcases this with rfl | rfl
             · exact h12
             · exact h23.symm
            have hne2 : ∀ a',a' < 3 -> a' ≠ 2 -> Duo.b (⟨tri b1 b2 b3,tri c1 c2 c3,tri (rs.map Rc.h) (rs.map Rc.w) (rs.map Rc.o),H1,ownx,Z,Bz⟩ : Duo) a' ≠ Duo.b (⟨tri b1 b2 b3,tri c1 c2 c3,tri (rs.map Rc.h) (rs.map Rc.w) (rs.map Rc.o),H1,ownx,Z,Bz⟩ : Duo) 2:=fun a' h1 h2=>by
             have : a' = 0 \/ a' = 1:=by omega
             rcases this with rfl | rfl
             · exact h13
             · exact h23
            have hasG : ∀ b,Duo.has (⟨tri b1 b2 b3,tri c1 c2 c3,tri (rs.map Rc.h) (rs.map Rc.w) (rs.map Rc.o),H1,ownx,Z,Bz⟩ : Duo) b -> Gh rs b1 b2 b3 b:=by
             rintro b ⟨a,ha,e⟩
             have : a = 0 \/ a = 1 \/ a = 2:=by omega
             rcases this with rfl | rfl | rfl
             · exact Or.inl e
             · exact Or.inr (Or.inl e)
             · exact Or.inr (Or.inr (Or.inl e))
            have nDb : ¬ Duo.has (⟨tri b1 b2 b3,tri c1 c2 c3,tri (rs.map Rc.h) (rs.map Rc.w) (rs.map Rc.o),H1,ownx,Z,Bz⟩ : Duo) Db:=fun h=>by have:=HDG.out _ (hasG _ h);omega
            have nXb : ¬ Duo.has (⟨tri b1 b2 b3,tri c1 c2 c3,tri (rs.map Rc.h) (rs.map Rc.w) (rs.map Rc.o),H1,ownx,Z,Bz⟩ : Duo) Xb:=fun h=>by have:=HXG.out _ (hasG _ h);omega
            have HAS : Hid (∀ b,Duo.has (⟨tri b1 b2 b3,tri c1 c2 c3,tri (rs.map Rc.h) (rs.map Rc.w) (rs.map Rc.o),H1,ownx,Z,Bz⟩ : Duo) b -> Gh rs b1 b2 b3 b):=hasG
            have HRW0 : Hid (Rw W.drew (duoT 0) (Duo.b (⟨tri b1 b2 b3,tri c1 c2 c3,tri (rs.map Rc.h) (rs.map Rc.w) (rs.map Rc.o),H1,ownx,Z,Bz⟩ : Duo) 0) (Duo.c (⟨tri b1 b2 b3,tri c1 c2 c3,tri (rs.map Rc.h) (rs.map Rc.w) (rs.map Rc.o),H1,ownx,Z,Bz⟩ : Duo) 0) (Duo.l (⟨tri b1 b2 b3,tri c1 c2 c3,tri (rs.map Rc.h) (rs.map Rc.w) (rs.map Rc.o),H1,ownx,Z,Bz⟩ : Duo) 0)):=G5d.r1
            have HRW1 : Hid (Rw W.drew (duoT 1) (Duo.b (⟨tri b1 b2 b3,tri c1 c2 c3,tri (rs.map Rc.h) (rs.map Rc.w) (rs.map Rc.o),H1,ownx,Z,Bz⟩ : Duo) 1) (Duo.c (⟨tri b1 b2 b3,tri c1 c2 c3,tri (rs.map Rc.h) (rs.map Rc.w) (rs.map Rc.o),H1,ownx,Z,Bz⟩ : Duo) 1) (Duo.l (⟨tri b1 b2 b3,tri c1 c2 c3,tri (rs.map Rc.h) (rs.map Rc.w) (rs.map Rc.o),H1,ownx,Z,Bz⟩ : Duo) 1)):=G5d.r2
            have HRW2 : Hid (Rw W.drew (duoT 2) (Duo.b (⟨tri b1 b2 b3,tri c1 c2 c3,tri (rs.map Rc.h) (rs.map Rc.w) (rs.map Rc.o),H1,ownx,Z,Bz⟩ : Duo) 2) (Duo.c (⟨tri b1 b2 b3,tri c1 c2 c3,tri (rs.map Rc.h) (rs.map Rc.w) (rs.map Rc.o),H1,ownx,Z,Bz⟩ : Duo) 2) (Duo.l (⟨tri b1 b2 b3,tri c1 c2 c3,tri (rs.map Rc.h) (rs.map Rc.w) (rs.map Rc.o),H1,ownx,Z,Bz⟩ : Duo) 2)):=G5d.r3
            have HGd : Hid (Grid w W.drew L E rs D b1 c1 b2 c2 b3 c3):=G5d
            have HFd : Hid (Hut w W.drew L E 1 6 8 40 s' σ' q' nx' gen (oo :: ls)):=HF5.out.drew
            have hBd : W.drew.heap.size = Bz:=hBz
            have hrl : rs.length <= 80:=by have:=HSH0.out.len;omega
            clear G5d hasG HF5 HG5
            refine wp_region_relyX_tail (Keep2 (⟨tri b1 b2 b3,tri c1 c2 c3,tri (rs.map Rc.h) (rs.map Rc.w) (rs.map Rc.o),H1,ownx,Z,Bz⟩ : Duo)) noJ 16 [.val (.slice (some ⟨b1,0,none⟩) rs.length c1),.val (.pointer (some ⟨Db,1,none⟩)),.val (.int .u64 H1),.that (Duo.boxd (⟨tri b1 b2 b3,tri c1 c2 c3,tri (rs.map Rc.h) (rs.map Rc.w) (rs.map Rc.o),H1,ownx,Z,Bz⟩ : Duo) 0) (Duo.boxd_stays hf2),.that (Duo.grew (⟨tri b1 b2 b3,tri c1 c2 c3,tri (rs.map Rc.h) (rs.map Rc.w) (rs.map Rc.o),H1,ownx,Z,Bz⟩ : Duo) 0) (Duo.grew_stays (by decide) hf2),.val (.slice (some ⟨b2,0,none⟩) rs.length c2),.val (.pointer (some ⟨Xb,1,none⟩)),.val (.int .i64 Z),.that (Duo.ph (⟨tri b1 b2 b3,tri c1 c2 c3,tri (rs.map Rc.h) (rs.map Rc.w) (rs.map Rc.o),H1,ownx,Z,Bz⟩ : Duo) 1) (Duo.ph_keep hf2),.that (Duo.boxd (⟨tri b1 b2 b3,tri c1 c2 c3,tri (rs.map Rc.h) (rs.map Rc.w) (rs.map Rc.o),H1,ownx,Z,Bz⟩ : Duo) 1) (Duo.boxd_stays hf2),.that (Duo.grew (⟨tri b1 b2 b3,tri c1 c2 c3,tri (rs.map Rc.h) (rs.map Rc.w) (rs.map Rc.o),H1,ownx,Z,Bz⟩ : Duo) 1) (Duo.grew_stays (by decide) hf2),.val (.slice (some ⟨b3,0,none⟩) rs.length c3),.val (.pointer (some ⟨Xb,6,none⟩)),.val (.bool ownx),.that (Duo.boxd (⟨tri b1 b2 b3,tri c1 c2 c3,tri (rs.map Rc.h) (rs.map Rc.w) (rs.map Rc.o),H1,ownx,Z,Bz⟩ : Duo) 2) (Duo.boxd_stays hf2),.that (Duo.grew (⟨tri b1 b2 b3,tri c1 c2 c3,tri (rs.map Rc.h) (rs.map Rc.w) (rs.map Rc.o),H1,ownx,Z,Bz⟩ : Duo) 2) (Duo.grew_stays (by decide) hf2)] (by kernel_rfl) Keep2.refl Keep2.trans (by decide) (by kernel_rfl) (by kernel_rfl) (by kernel_rfl) (by kernel_rfl) (by kernel_rfl) (by kernel_rfl) trivial ?_
            simp only [List.take_succ_cons,List.take_zero,relyAllX,Act.put,List.setIfInBounds_toArray,List.set_cons_zero,List.set_cons_succ]
            refine ⟨?_,?_,?_,?_,fun v3=>⟨?_,fun v4=>⟨?_,?_,?_,?_,fun v8=>⟨?_,fun v9=>⟨?_,fun v10=>⟨?_,?_,?_,?_,fun v14=>⟨?_,fun v15=>?_⟩⟩⟩⟩⟩⟩⟩
            · intro w' l hg hf hJ hl hp
              apply ol
              go_simp
              exact ⟨Keep2.refl _,rfl,trivial⟩
            · intro w' l hg hf hJ hl hp
              apply ol
              go_simp
              exact ⟨Keep2.refl _,rfl,trivial⟩
            · intro w' l hg hf hJ hl hp
              apply ol
              have z:=hg.only.keep (b:=Db) nDb hD5
              go_simp
              exact ⟨Keep2.refl _,rfl,trivial⟩
            · intro w' l hg hf hJ hl hp
              apply ol
              have hz : Bz <= w'.heap.size:=by have:=hg.only.size;have e : W.drew.heap.size = W.heap.size:=rfl;omega
              go_simp
              exact ⟨Keep2.grown hf2 (grow_alloc (Below.refl _ _) _),⟨_,_,rfl,hz,rfl,by simp⟩,trivial⟩
            · intro w' l hg hf hJ hl hp
              apply ol
              have hz : Bz <= w'.heap.size:=by have:=hg.only.size;have e : W.drew.heap.size = W.heap.size:=rfl;omega
              have f0:=hf.1 (by kernel_rfl)
              clear hf
              obtain ⟨v',w4',hrun,hk,hgr⟩:=Duo.app (F:=(⟨tri b1 b2 b3,tri c1 c2 c3,tri (rs.map Rc.h) (rs.map Rc.w) (rs.map Rc.o),H1,ownx,Z,Bz⟩ : Duo)) (a:=0) (by decide) hf2 hne0 Tryz.underlying31 Tryz.infoR34 rfl (by decide) HRW0.out hg f0 (by show (rs.map Rc.h).length <= 1000;simp;omega) hz 31 rfl rfl (by show (rs.map Rc.h).length = rs.length;simp)
              exact rely_append2 (.tmp 138) (.tmp 141) rfl rfl rfl hrun hk ⟨hgr,trivial⟩
            · intro w' l hg hf hJ hl hp
              apply ol
              go_simp
              exact ⟨Keep2.refl _,rfl,trivial⟩
            · intro w' l hg hf hJ hl hp
              apply ol
              go_simp
              exact ⟨Keep2.refl _,rfl,trivial⟩
            · intro w' l hg hf hJ hl hp
              apply ol
              have z:=hg.only.keep (b:=Xb) nXb hX1
              go_simp
              exact ⟨Keep2.refl _,rfl,trivial⟩
            · intro w' l hg hf hJ hl hp
              apply ol
              have hz : Bz <= w'.heap.size:=by have:=hg.only.size;have e : W.drew.heap.size = W.heap.size:=rfl;omega
              have hmk:=run_make_row' (P:=Tryz.prog) 43 3 (.int .i64 0) 8 Tryz.underlying43 Tryz.infoR3 rfl .i64 .i64 Z (by omega) (by omega)
              have hr:=World.rowIs_made w' (.int .i64 0) Z 3
              go_simp
              exact ⟨Keep2.grown hf2 (grow_alloc (Below.refl _ _) _),⟨_,rfl,hz,hr⟩,trivial⟩
            · intro w' l hg hf hJ hl hp
              apply ol
              have hz : Bz <= w'.heap.size:=by have:=hg.only.size;have e : W.drew.heap.size = W.heap.size:=rfl;omega
              obtain ⟨g,rfl,h1,h2⟩:=hf.1 (by kernel_rfl)
              have h3:=grow1 w' (.cells #[.slice (some ⟨g,0,none⟩) Z Z] 43)
              clear hf
              go_simp
              exact ⟨Keep2.grown hf2 h3,⟨_,_,rfl,hz,⟨g,rfl,h1,h2.of_block (h3.block _ h2.lt)⟩,by simp⟩,trivial⟩
            · intro w' l hg hf hJ hl hp
              apply ol
              have hz : Bz <= w'.heap.size:=by have:=hg.only.size;have e : W.drew.heap.size = W.heap.size:=rfl;omega
              have f0:=hf.1 (by kernel_rfl)
              clear hf
              obtain ⟨v',w4',hrun,hk,hgr⟩:=Duo.app (F:=(⟨tri b1 b2 b3,tri c1 c2 c3,tri (rs.map Rc.h) (rs.map Rc.w) (rs.map Rc.o),H1,ownx,Z,Bz⟩ : Duo)) (a:=1) (by decide) hf2 hne1 Tryz.underlying32 Tryz.infoR43 rfl (by decide) HRW1.out hg f0 (by show (rs.map Rc.w).length <= 1000;simp;omega) hz 32 rfl rfl (by show (rs.map Rc.w).length = rs.length;simp)
              exact rely_append2 (.tmp 143) (.tmp 147) rfl rfl rfl hrun hk ⟨hgr,trivial⟩
            · intro w' l hg hf hJ hl hp
              apply ol
              go_simp
              exact ⟨Keep2.refl _,rfl,trivial⟩
            · intro w' l hg hf hJ hl hp
              apply ol
              go_simp
              exact ⟨Keep2.refl _,rfl,trivial⟩
            · intro w' l hg hf hJ hl hp
              apply ol
              have z:=hg.only.keep (b:=Xb) nXb hX6
              go_simp
              exact ⟨Keep2.refl _,rfl,trivial⟩
            · intro w' l hg hf hJ hl hp
              apply ol
              have hz : Bz <= w'.heap.size:=by have:=hg.only.size;have e : W.drew.heap.size = W.heap.size:=rfl;omega
              go_simp
              exact ⟨Keep2.grown hf2 (grow_alloc (Below.refl _ _) _),⟨_,_,rfl,hz,rfl,by simp⟩,trivial⟩
            · intro w' l hg hf hJ hl hp
              apply ol
              have hz : Bz <= w'.heap.size:=by have:=hg.only.size;have e : W.drew.heap.size = W.heap.size:=rfl;omega
              have f0:=hf.1 (by kernel_rfl)
              clear hf
              obtain ⟨v',w4',hrun,hk,hgr⟩:=Duo.app (F:=(⟨tri b1 b2 b3,tri c1 c2 c3,tri (rs.map Rc.h) (rs.map Rc.w) (rs.map Rc.o),H1,ownx,Z,Bz⟩ : Duo)) (a:=2) (by decide) hf2 hne2 Tryz.underlying33 Tryz.infoR4 rfl (by decide) HRW2.out hg f0 (by show (rs.map Rc.o).length <= 1000;simp;omega) hz 33 rfl rfl (by show (rs.map Rc.o).length = rs.length;simp)
              exact rely_append2 (.tmp 149) (.tmp 152) rfl rfl rfl hrun hk ⟨hgr,trivial⟩
            intro w9 hg hf hJ
            obtain ⟨g15,-,g10,-,-,g4,-⟩:=hf
            obtain ⟨bo,b1',c1',b2',c2',b3',c3',rfl,rfl,rfl,G6⟩:=HGd.out.grew HFd.out.ltE HFd.out.b.size (fun b hb=>HFd.out.mm.lt b hb) (F:=(⟨tri b1 b2 b3,tri c1 c2 c3,tri (rs.map Rc.h) (rs.map Rc.w) (rs.map Rc.o),H1,ownx,Z,Bz⟩ : Duo)) (x:=oo.x) (g:=oo.g) rfl rfl rfl rfl rfl rfl HH1.out hBd.symm (HSH0.out.dz _ (Nat.le_refl _)) hg g4 g10 g15
            have f6 : Hut w w9 L E 1 6 8 40 s' σ' q' nx' gen (oo :: ls):=HFd.out.only hg.only (fun x hx hs=>(HGd.out.lone (HAS.out _ hs)).l hx) (fun hs=>(HGd.out.lone (HAS.out _ hs)).e rfl) (fun x hs=>(HGd.out.lone (HAS.out _ hs)).p)
            have HF6 : Hid (Hut w w9 L E 1 6 8 40 s' σ' q' nx' gen (oo :: ls)):=f6
            have HG6 : Hid (Grid w w9 L E (rs ++ [(⟨oo.x,oo.g,Z,ownx,true,bo⟩ : Rc)]) D b1' c1' b2' c2' b3' c3'):=G6
            have HS6 : Hid (Shelf 6 (j + 1) q' gen (oo :: ls) (rs ++ [(⟨oo.x,oo.g,Z,ownx,true,bo⟩ : Rc)]) D):=by
             have e1 : oo.Z = Z:=by have:=HOZZ.out;have:=HZx.out;omega
             have:=HSHM.out HTM9.out bo
             rwa [e1,HOW.out] at this
            clear f6 G6 g15 g10 g4 hg hD5 hX1 hX6 hf2 h12 h13 h23 hne0 hne1 hne2 nDb nXb HRW0 HRW1 HRW2 HGd HFd hBd hBz hJ
            go_wp2
            go_roundw
            case rel=>exact ⟨j + 1,s',σ',q',nx',gen,(oo :: ls),rs ++ [(⟨oo.x,oo.g,Z,ownx,true,bo⟩ : Rc)],D,b1',c1',b2',c2',b3',c3',by simp,by simp,by simp,by go_num,by omega,by have:=HS1.out;have:=HSG.out;omega,HF6.out,HG6.out,HS6.out⟩
            case measure=>simp [intOf];omega
          | dead h=>exact absurd rfl h
          | gone h=>exact absurd h (by show ¬ (1 : Int) = 2;decide)
          | index h=>exact absurd h (by show ¬ (3 : Int) <= 1;decide)
          | read h=>exact absurd h (by show ¬ (3 : Int) <= 1;decide)
          | other h=>exact absurd h (by show ¬ (3 : Int) <= 1;decide)
          | laid h=>exact absurd h (by show ¬ (3 : Int) <= 1;decide)
      · skip
        have kc1 : (kx == 1) = false:=beq_eq_false_iff_ne.2 hk1
        have kc2 : (kx != 1) = true:=bne_iff_ne.2 hk1
        have lc:=fun w=>lclass_any sx w
        by_cases hr0 : rs.length = 0
        · have hr1 : decide ((0 : Int) < ((rs.length : Nat) : Int)) = false:=decide_eq_false (by omega)
          have hr2 : decide (0 < rs.length) = false:=decide_eq_false (by omega)
          obtain ⟨E0,H0,V0,q',nx',gen',ls',O,hdo⟩:=hY ux hyn
          obtain ⟨rfl,rfl,rfl,rfl,rfl,rfl,rfl⟩:=HSH.out.none HTM.out (by decide) (Or.inl (List.length_eq_zero_iff.1 hr0)) hk1 O
          have HSH1 : Hid (Shelf 6 (j + 1) q' gen' ls' rs D):=HSH.out.keep (fun _ _ _ _=>rfl)
          clear hr0 O hY HSH hk1
          as_aux_lemma =>
           go_wp2_with (first
            | (go_at_call 11;refine (ycut _).mono ?_;rintro e w3 ⟨rfl,g3⟩;have f3:=HF.out.grown g3;have G3:=HG.out.grown g3;have e0:=(fun O=>alloc_cell f3.v.c0 O);have e1:=(fun O=>alloc_cell f3.v.c1 O);have e2:=(fun O=>alloc_cell f3.v.c2 O);have e3:=(fun O=>alloc_cell f3.v.c3 O);have e4:=(fun O=>alloc_cell f3.v.c4 O);have e5:=(fun O=>alloc_cell f3.v.c5 O);have e6:=(fun O=>alloc_cell f3.v.c6 O);have e7:=(fun O=>alloc_cell f3.v.c7 O);have e8:=(fun O=>alloc_cell f3.v.c8 O))
            | (go_at_call 12;refine (hdo _ (f3.alloc (.cells #[.int .i64 kx,.int .i64 sx,.int .u64 ux,.int .i64 ix,.int .i64 vx,.int .i64 ox,.bool ownx] 36))).mono ?_;rintro e w5 ⟨St,s',σ',rfl,hs1,-,-,-,f5',o5⟩;clear e0 e1 e2 e3 e4 e5 e6 e7 e8 hdo;have GB5:=grow1 w5 (.cells #[.int .i64 3,.int .u64 0,.int .i64 0,.int .i64 St] 40);have f5:=f5'.grown GB5;have G5:=((G3.grown (grow1 w3 (.cells #[.int .i64 kx,.int .i64 sx,.int .u64 ux,.int .i64 ix,.int .i64 vx,.int .i64 ox,.bool ownx] 36))).mem o5).grown GB5;have xA:=((At.new w3 36 [.int .i64 kx,.int .i64 sx,.int .u64 ux,.int .i64 ix,.int .i64 vx,.int .i64 ox,.bool ownx]).only o5 f3.ltL).grown GB5;have dN:=At.new w5 40 [.int .i64 3,.int .u64 0,.int .i64 0,.int .i64 St];have hXD : w3.heap.size < w5.heap.size:=((At.new w3 36 [.int .i64 kx,.int .i64 sx,.int .u64 ux,.int .i64 ix,.int .i64 vx,.int .i64 ox,.bool ownx]).only o5 f3.ltL).lt;have hXG:=(fun b hb=>(G3.lt (b:=b) hb));have hDG:=(fun b hb=>((G3.grown (grow1 w3 (.cells #[.int .i64 kx,.int .i64 sx,.int .u64 ux,.int .i64 ix,.int .i64 vx,.int .i64 ox,.bool ownx] 36))).mem o5).lt (b:=b) hb);have x0:=xA.at0 0 rfl;have x1:=xA.at0 1 rfl;have x3:=xA.at0 3 rfl;have x4:=xA.at0 4 rfl;have x5:=xA.at0 5 rfl;have x6:=xA.at0 6 rfl;have d0:=dN.at0 0 rfl;have d1:=dN.at0 1 rfl;have d2:=dN.at0 2 rfl)
            | (go_at_call 13;refine (lc _).mono ?_;rintro e w6 ⟨rfl,rfl⟩))
           have HS1 : Hid (σ' <= σ + 500):=hs1
           obtain ⟨Xb,hXb⟩ : ∃ X,w3.heap.size = X:=⟨_,rfl⟩
           obtain ⟨Db,hDb⟩ : ∃ X,w5.heap.size = X:=⟨_,rfl⟩
           have HXG : Hid (∀ b,Gh rs b1 b2 b3 b -> b < Xb):=by rw [<- hXb];exact hXG
           have HDG : Hid (∀ b,Gh rs b1 b2 b3 b -> b < Db):=by rw [<- hDb];exact hDG
           rw [hXb] at xA hXD ⊢
           rw [hDb] at dN hXD ⊢
           have HXD : Hid (Xb < Db):=hXD
           refine wp_over (fun W=>Hut w W L E 1 6 8 40 s' σ' q' nx' gen' ls' /\ Grid w W L E rs D b1 c1 b2 c2 b3 c3 /\ At W Xb 0 36 _ [.int .i64 kx,.int .i64 sx,.int .u64 ux,.int .i64 ix,.int .i64 vx,.int .i64 ox,.bool ownx] /\ At W Db 0 40 _ [.int .i64 3,.int .u64 0,.int .i64 0,.int .i64 St]) ⟨f5,G5,xA,dN⟩ ?_
           clear f3 G3 f5' f5 G5 xA dN hXb hDb hXD hXG hDG o5 HF HG x0 x1 x3 x4 x5 x6 d0 d1 d2
           rintro W ⟨f5,G5,xA,dN⟩
           have HF5 : Hid (Hut w W L E 1 6 8 40 s' σ' q' nx' gen' ls'):=f5
           have HG5 : Hid (Grid w W L E rs D b1 c1 b2 c2 b3 c3):=G5
           clear hs1
           have x0:=xA.at0 0 rfl
           have x1:=xA.at0 1 rfl
           have x3:=xA.at0 3 rfl
           have x4:=xA.at0 4 rfl
           have x5:=xA.at0 5 rfl
           have x6:=xA.at0 6 rfl
           have d0:=dN.at0 0 rfl
           have d1:=dN.at0 1 rfl
           have d2:=dN.at0 2 rfl
           clear f5 G5 x1 d1
           go_region
           have f6:=HF5.out.drew
           have G6:=HG5.out.grown ((Below.refl W.heap.size W).drew)
           have xB:=xA.drew
           have dM:=dN.drew
           clear HF5 HG5 xA dN x0 x3 x4 x5 x6 d0 d2
           generalize W.drew = W at f6 G6 xB dM ⊢
           have xA:=xB
           have dN:=dM
           have HF5 : Hid (Hut w W L E 1 6 8 40 s' σ' q' nx' gen' ls'):=f6
           have HG5 : Hid (Grid w W L E rs D b1 c1 b2 c2 b3 c3):=G6
           clear f6 G6 xB dM
           have x0:=xA.at0 0 rfl
           have x3:=xA.at0 3 rfl
           have x4:=xA.at0 4 rfl
           have x5:=xA.at0 5 rfl
           have x6:=xA.at0 6 rfl
           have d0:=dN.at0 0 rfl
           have d2:=dN.at0 2 rfl
           go_wp2
           go_roundw
           case rel=>exact ⟨j + 1,s',σ',q',nx',gen',ls',rs,D,b1,c1,b2,c2,b3,c3,rfl,rfl,rfl,by go_num,by omega,by have:=HS1.out;have:=HSG.out;omega,HF5.out,HG5.out,HSH1.out⟩
           case measure=>simp [intOf];omega
        · have hr1 : decide ((0 : Int) < ((rs.length : Nat) : Int)) = true:=decide_eq_true (by omega)
          have hr2 : decide (0 < rs.length) = true:=decide_eq_true (by omega)
          have hrl : rs.length <= 80:=by have:=HSH.out.len;omega
          obtain ⟨K,hK,hKl⟩ : ∃ K : Nat,ux % ((rs.length : Nat) : Int) = (K : Int) /\ K < rs.length:=⟨(ux % ((rs.length : Nat) : Int)).toNat,by have:=Int.emod_nonneg ux (b:=((rs.length : Nat) : Int)) (by omega);omega,by have:=Int.emod_lt_of_pos ux (b:=((rs.length : Nat) : Int)) (by omega);omega⟩
          obtain ⟨ρ,hρ⟩ : ∃ ρ,rs[K]? = some ρ:=⟨rs[K],List.getElem?_eq_getElem hKl⟩
          obtain ⟨g1,g2,g3,g4,g5⟩:=HSH.out.rg K ρ hρ
          obtain ⟨H1,hH1⟩ : ∃ H1,packH ρ.x ρ.g = H1:=⟨_,rfl⟩
          have hwH : Wd H1:=by rw [<- hH1];exact (packH_wd (by omega) g2 g3).1
          have HRK1 : Hid ((rs.map Rc.h)[K]? = some (.int .u64 H1)):=by
           show _ = _
           rw [List.getElem?_map,hρ,<- hH1];rfl
          have HRK3 : Hid ((rs.map Rc.o)[K]? = some (.bool ρ.own)):=by
           show _ = _
           rw [List.getElem?_map,hρ];rfl
          have HRO : Hid (rs[K]? = some ρ):=hρ
          have HHH : Hid (H1 = packH ρ.x ρ.g):=hH1.symm
          have hb0 : (0 : Int) <= (K : Int):=by omega
          have hb1 : (K : Int) < ((rs.length : Nat) : Int):=by omega
          have hb2 : decide ((K : Int) < 0) = false:=decide_eq_false (by omega)
          have hlb : ((rs.length : Nat) : Int) <= 80:=by omega
          have hux : 0 <= ux /\ ux <= 18446744073709551615:=hyn
          obtain ⟨hux0,hux1⟩:=hux
          obtain ⟨E0,H0,V0,q',nx',gen',ls',O,hdo⟩:=hY H1 hwH
          have HO : Hid (Out 8 ⟨kx,sx,H1,ix,vx,ox,ownx⟩ q nx gen ls E0 H0 V0 q' nx' gen' ls'):=O
          have HK1 : Hid (¬ kx = 1):=hk1
          clear hr0 O hY hk1 g1 g2 g3 g4 g5 hwH hH1 hρ hyn
          cases hlv : ρ.live with
          | false =>
           have HRK2 : Hid ((rs.map Rc.w)[K]? = some (.slice none 0 0)):=by
            show _ = _
            rw [List.getElem?_map,HRO.out]
            show some ρ.w = _
            unfold Rc.w;rw [hlv];rfl
           obtain ⟨rfl,rfl,rfl,rfl,rfl,rfl,rfl⟩:=HSH.out.none HTM.out (by decide) (Or.inr ⟨K,ρ,HRO.out,HHH.out,Or.inl hlv⟩) HK1.out HO.out
           have HSH1 : Hid (Shelf 6 (j + 1) q' gen' ls' rs D):=HSH.out.keep (fun _ _ _ _=>rfl)
           clear HSH HO hlv
           as_aux_lemma =>
            go_wp2_with (first
             | (go_at_call 11;refine (ycut _).mono ?_;rintro e w3 ⟨rfl,g3⟩;have f3:=HF.out.grown g3;have G3:=HG.out.grown g3;have hm1:=(fun O=>alloc_cell (G3.r1.cell (i:=K) (x:=.int .u64 H1) HRK1.out) O);have e0:=(fun O=>alloc_cell f3.v.c0 O);have e1:=(fun O=>alloc_cell f3.v.c1 O);have e2:=(fun O=>alloc_cell f3.v.c2 O);have e3:=(fun O=>alloc_cell f3.v.c3 O);have e4:=(fun O=>alloc_cell f3.v.c4 O);have e5:=(fun O=>alloc_cell f3.v.c5 O);have e6:=(fun O=>alloc_cell f3.v.c6 O);have e7:=(fun O=>alloc_cell f3.v.c7 O);have e8:=(fun O=>alloc_cell f3.v.c8 O))
             | (go_at_call 12;refine (hdo _ (f3.alloc (.cells #[.int .i64 kx,.int .i64 sx,.int .u64 H1,.int .i64 ix,.int .i64 vx,.int .i64 ox,.bool ownx] 36))).mono ?_;rintro e w5 ⟨St,s',σ',rfl,hs1,-,-,-,f5',o5⟩;clear hm1 e0 e1 e2 e3 e4 e5 e6 e7 e8 hdo;have GB5:=grow1 w5 (.cells #[.int .i64 3,.int .u64 0,.int .i64 0,.int .i64 St] 40);have f5:=f5'.grown GB5;have G5:=((G3.grown (grow1 w3 (.cells #[.int .i64 kx,.int .i64 sx,.int .u64 H1,.int .i64 ix,.int .i64 vx,.int .i64 ox,.bool ownx] 36))).mem o5).grown GB5;have xA:=((At.new w3 36 [.int .i64 kx,.int .i64 sx,.int .u64 H1,.int .i64 ix,.int .i64 vx,.int .i64 ox,.bool ownx]).only o5 f3.ltL).grown GB5;have dN:=At.new w5 40 [.int .i64 3,.int .u64 0,.int .i64 0,.int .i64 St];have hXD : w3.heap.size < w5.heap.size:=((At.new w3 36 [.int .i64 kx,.int .i64 sx,.int .u64 H1,.int .i64 ix,.int .i64 vx,.int .i64 ox,.bool ownx]).only o5 f3.ltL).lt;have hXG:=(fun b hb=>(G3.lt (b:=b) hb));have hDG:=(fun b hb=>((G3.grown (grow1 w3 (.cells #[.int .i64 kx,.int .i64 sx,.int .u64 H1,.int .i64 ix,.int .i64 vx,.int .i64 ox,.bool ownx] 36))).mem o5).lt (b:=b) hb);have x0:=xA.at0 0 rfl;have x1:=xA.at0 1 rfl;have x3:=xA.at0 3 rfl;have x4:=xA.at0 4 rfl;have x5:=xA.at0 5 rfl;have x6:=xA.at0 6 rfl;have d0:=dN.at0 0 rfl;have d1:=dN.at0 1 rfl;have d2:=dN.at0 2 rfl)
             | (go_at_call 13;refine (lc _).mono ?_;rintro e w6 ⟨rfl,rfl⟩))
            have HS1 : Hid (σ' <= σ + 500):=hs1
            obtain ⟨Xb,hXb⟩ : ∃ X,w3.heap.size = X:=⟨_,rfl⟩
            obtain ⟨Db,hDb⟩ : ∃ X,w5.heap.size = X:=⟨_,rfl⟩
            have HXG : Hid (∀ b,Gh rs b1 b2 b3 b -> b < Xb):=by rw [<- hXb];exact hXG
            have HDG : Hid (∀ b,Gh rs b1 b2 b3 b -> b < Db):=by rw [<- hDb];exact hDG
            rw [hXb] at xA hXD ⊢
            rw [hDb] at dN hXD ⊢
            have HXD : Hid (Xb < Db):=hXD
            refine wp_over (fun W=>Hut w W L E 1 6 8 40 s' σ' q' nx' gen' ls' /\ Grid w W L E rs D b1 c1 b2 c2 b3 c3 /\ At W Xb 0 36 _ [.int .i64 kx,.int .i64 sx,.int .u64 H1,.int .i64 ix,.int .i64 vx,.int .i64 ox,.bool ownx] /\ At W Db 0 40 _ [.int .i64 3,.int .u64 0,.int .i64 0,.int .i64 St]) ⟨f5,G5,xA,dN⟩ ?_
            clear f3 G3 f5' f5 G5 xA dN hXb hDb hXD hXG hDG o5 HF HG x0 x1 x3 x4 x5 x6 d0 d1 d2
            rintro W ⟨f5,G5,xA,dN⟩
            have HF5 : Hid (Hut w W L E 1 6 8 40 s' σ' q' nx' gen' ls'):=f5
            have HG5 : Hid (Grid w W L E rs D b1 c1 b2 c2 b3 c3):=G5
            clear hs1
            have x0:=xA.at0 0 rfl
            have x1:=xA.at0 1 rfl
            have x3:=xA.at0 3 rfl
            have x4:=xA.at0 4 rfl
            have x5:=xA.at0 5 rfl
            have x6:=xA.at0 6 rfl
            have d0:=dN.at0 0 rfl
            have d1:=dN.at0 1 rfl
            have d2:=dN.at0 2 rfl
            clear f5 G5 x1 d1
            have wc : W.cell? ⟨b2,K,none⟩ = some (.slice none 0 0):=HG5.out.r2.cell (i:=K) HRK2.out
            have oc : W.cell? ⟨b3,K,none⟩ = some (.bool ρ.own):=HG5.out.r3.cell (i:=K) HRK3.out
            go_region
            have f6:=HF5.out.drew
            have G6:=HG5.out.grown ((Below.refl W.heap.size W).drew)
            have xB:=xA.drew
            have dM:=dN.drew
            clear HF5 HG5 xA dN x0 x3 x4 x5 x6 d0 d2 wc oc
            generalize W.drew = W at f6 G6 xB dM ⊢
            have xA:=xB
            have dN:=dM
            have HF5 : Hid (Hut w W L E 1 6 8 40 s' σ' q' nx' gen' ls'):=f6
            have HG5 : Hid (Grid w W L E rs D b1 c1 b2 c2 b3 c3):=G6
            clear f6 G6 xB dM
            have x0:=xA.at0 0 rfl
            have x3:=xA.at0 3 rfl
            have x4:=xA.at0 4 rfl
            have x5:=xA.at0 5 rfl
            have x6:=xA.at0 6 rfl
            have d0:=dN.at0 0 rfl
            have d2:=dN.at0 2 rfl
            go_wp2
            go_roundw
            case rel=>exact ⟨j + 1,s',σ',q',nx',gen',ls',rs,D,b1,c1,b2,c2,b3,c3,rfl,rfl,rfl,by go_num,by omega,by have:=HS1.out;have:=HSG.out;omega,HF5.out,HG5.out,HSH1.out⟩
            case measure=>simp [intOf];omega
          | true =>
           have HLV : Hid (ρ.live = true):=hlv
           have HRK2 : Hid ((rs.map Rc.w)[K]? = some (.slice (some ⟨ρ.b,0,none⟩) ρ.Z ρ.Z)):=by
            show _ = _
            rw [List.getElem?_map,HRO.out]
            show some ρ.w = _
            unfold Rc.w;rw [hlv];rfl
           clear hlv
           by_cases how : ρ.own = ownx
           · have HOWN : Hid (ρ.own = ownx):=how
             have HRK4 : Hid ((rs.map Rc.o)[K]? = some (.bool ownx)):=by rw [<- how];exact HRK3.out
             clear how
             by_cases hk2 : kx = 2
             · obtain ⟨rfl,rfl,rfl,S'⟩:=HSH.out.goes HTM.out (by decide) HRO.out HLV.out HHH.out HOWN.out hk2 HO.out
               have HSH1 : Hid (Shelf 6 (j + 1) q' gen' ls' (rs.set K { ρ with live:=false }) D):=S'
               have kc3 : (kx == 2) = true:=beq_iff_eq.2 hk2
               clear S' HO hk2 HK1
               as_aux_lemma =>
                go_wp2_with (first
                 | (go_at_call 11;refine (ycut _).mono ?_;rintro e w3 ⟨rfl,g3⟩;have f3:=HF.out.grown g3;have G3:=HG.out.grown g3;have hm1:=(fun O=>alloc_cell (G3.r1.cell (i:=K) (x:=.int .u64 H1) HRK1.out) O);have e0:=(fun O=>alloc_cell f3.v.c0 O);have e1:=(fun O=>alloc_cell f3.v.c1 O);have e2:=(fun O=>alloc_cell f3.v.c2 O);have e3:=(fun O=>alloc_cell f3.v.c3 O);have e4:=(fun O=>alloc_cell f3.v.c4 O);have e5:=(fun O=>alloc_cell f3.v.c5 O);have e6:=(fun O=>alloc_cell f3.v.c6 O);have e7:=(fun O=>alloc_cell f3.v.c7 O);have e8:=(fun O=>alloc_cell f3.v.c8 O))
                 | (go_at_call 12;refine (hdo _ (f3.alloc (.cells #[.int .i64 kx,.int .i64 sx,.int .u64 H1,.int .i64 ix,.int .i64 vx,.int .i64 ox,.bool ownx] 36))).mono ?_;rintro e w5 ⟨St,s',σ',rfl,hs1,-,-,-,f5',o5⟩;clear hm1 e0 e1 e2 e3 e4 e5 e6 e7 e8 hdo;have GB5:=grow1 w5 (.cells #[.int .i64 0,.int .u64 0,.int .i64 0,.int .i64 St] 40);have f5:=f5'.grown GB5;have G5:=((G3.grown (grow1 w3 (.cells #[.int .i64 kx,.int .i64 sx,.int .u64 H1,.int .i64 ix,.int .i64 vx,.int .i64 ox,.bool ownx] 36))).mem o5).grown GB5;have xA:=((At.new w3 36 [.int .i64 kx,.int .i64 sx,.int .u64 H1,.int .i64 ix,.int .i64 vx,.int .i64 ox,.bool ownx]).only o5 f3.ltL).grown GB5;have dN:=At.new w5 40 [.int .i64 0,.int .u64 0,.int .i64 0,.int .i64 St];have hXD : w3.heap.size < w5.heap.size:=((At.new w3 36 [.int .i64 kx,.int .i64 sx,.int .u64 H1,.int .i64 ix,.int .i64 vx,.int .i64 ox,.bool ownx]).only o5 f3.ltL).lt;have hXG:=(fun b hb=>(G3.lt (b:=b) hb));have hDG:=(fun b hb=>((G3.grown (grow1 w3 (.cells #[.int .i64 kx,.int .i64 sx,.int .u64 H1,.int .i64 ix,.int .i64 vx,.int .i64 ox,.bool ownx] 36))).mem o5).lt (b:=b) hb);have x0:=xA.at0 0 rfl;have x1:=xA.at0 1 rfl;have x3:=xA.at0 3 rfl;have x4:=xA.at0 4 rfl;have x5:=xA.at0 5 rfl;have x6:=xA.at0 6 rfl;have d0:=dN.at0 0 rfl;have d1:=dN.at0 1 rfl;have d2:=dN.at0 2 rfl)
                 | (go_at_call 13;refine (lc _).mono ?_;rintro e w6 ⟨rfl,rfl⟩))
                have HS1 : Hid (σ' <= σ + 500):=hs1
                obtain ⟨Xb,hXb⟩ : ∃ X,w3.heap.size = X:=⟨_,rfl⟩
                obtain ⟨Db,hDb⟩ : ∃ X,w5.heap.size = X:=⟨_,rfl⟩
                have HXG : Hid (∀ b,Gh rs b1 b2 b3 b -> b < Xb):=by rw [<- hXb];exact hXG
                have HDG : Hid (∀ b,Gh rs b1 b2 b3 b -> b < Db):=by rw [<- hDb];exact hDG
                rw [hXb] at xA hXD ⊢
                rw [hDb] at dN hXD ⊢
                have HXD : Hid (Xb < Db):=hXD
                refine wp_over (fun W=>Hut w W L E 1 6 8 40 s' σ' q' nx' gen' ls' /\ Grid w W L E rs D b1 c1 b2 c2 b3 c3 /\ At W Xb 0 36 _ [.int .i64 kx,.int .i64 sx,.int .u64 H1,.int .i64 ix,.int .i64 vx,.int .i64 ox,.bool ownx] /\ At W Db 0 40 _ [.int .i64 0,.int .u64 0,.int .i64 0,.int .i64 St]) ⟨f5,G5,xA,dN⟩ ?_
                clear f3 G3 f5' f5 G5 xA dN hXb hDb hXD hXG hDG o5 HF HG x0 x1 x3 x4 x5 x6 d0 d1 d2
                rintro W ⟨f5,G5,xA,dN⟩
                have HF5 : Hid (Hut w W L E 1 6 8 40 s' σ' q' nx' gen' ls'):=f5
                have HG5 : Hid (Grid w W L E rs D b1 c1 b2 c2 b3 c3):=G5
                clear hs1
                have x0:=xA.at0 0 rfl
                have x1:=xA.at0 1 rfl
                have x3:=xA.at0 3 rfl
                have x4:=xA.at0 4 rfl
                have x5:=xA.at0 5 rfl
                have x6:=xA.at0 6 rfl
                have d0:=dN.at0 0 rfl
                have d1:=dN.at0 1 rfl
                have d2:=dN.at0 2 rfl
                clear f5 G5 x1 d1
                have wc : W.cell? ⟨b2,K,none⟩ = some (.slice (some ⟨ρ.b,0,none⟩) ρ.Z ρ.Z):=HG5.out.r2.cell (i:=K) HRK2.out
                have oc : W.cell? ⟨b3,K,none⟩ = some (.bool ownx):=HG5.out.r3.cell (i:=K) HRK4.out
                go_region
                have f6:=HF5.out.drew
                have G6:=HG5.out.grown ((Below.refl W.heap.size W).drew)
                have xB:=xA.drew
                have dM:=dN.drew
                clear HF5 HG5 xA dN x0 x3 x4 x5 x6 d0 d2 wc oc
                generalize W.drew = W at f6 G6 xB dM ⊢
                have xA:=xB
                have dN:=dM
                have HF5 : Hid (Hut w W L E 1 6 8 40 s' σ' q' nx' gen' ls'):=f6
                have HG5 : Hid (Grid w W L E rs D b1 c1 b2 c2 b3 c3):=G6
                clear f6 G6 xB dM
                have x0:=xA.at0 0 rfl
                have x3:=xA.at0 3 rfl
                have x4:=xA.at0 4 rfl
                have x5:=xA.at0 5 rfl
                have x6:=xA.at0 6 rfl
                have d0:=dN.at0 0 rfl
                have d2:=dN.at0 2 rfl
                have wc : W.cell? ⟨b2,K,none⟩ = some (.slice (some ⟨ρ.b,0,none⟩) ρ.Z ρ.Z):=HG5.out.r2.cell (i:=K) HRK2.out
                have oc : W.cell? ⟨b3,K,none⟩ = some (.bool ownx):=HG5.out.r3.cell (i:=K) HRK4.out
                have wf : ∀ i,W.frozen? ⟨b2,i,none⟩ = false:=fun i=>HG5.out.r2.fz i
                go_wp2
                go_roundw
                case rel=>exact ⟨j + 1,s',σ',q',nx',gen',ls',rs.set K { ρ with live:=false },D,b1,c1,b2,c2,b3,c3,by simp,by simp,by simp,by go_num,by omega,by have:=HS1.out;have:=HSG.out;omega,HF5.out.setIn HG5.out.f2.p HG5.out.f2.e HG5.out.f2.l _ _,HG5.out.gone HRO.out,HSH1.out⟩
                case measure=>simp [intOf];omega
             · have kc3 : (kx == 2) = false:=beq_eq_false_iff_ne.2 hk2
               have k3 : 3 <= kx:=by have:=HK1.out;omega
               have HK3 : Hid (3 <= kx):=k3
               by_cases hix : 0 <= ix
               · by_cases hiz : ix < (ρ.Z : Int)
                 · obtain ⟨jj,hjj⟩ : ∃ jj : Nat,ix = (jj : Int):=⟨ix.toNat,by omega⟩
                   obtain ⟨rfl,hV,hc⟩:=HSH.out.word HTM.out (by decide) HRO.out HLV.out HHH.out HOWN.out k3 hjj (by omega) HO.out
                   obtain ⟨fv,hfv⟩ : ∃ fv,D K jj = fv:=⟨_,rfl⟩
                   rw [hfv] at hV hc
                   subst hV
                   have HFV : Hid (D K jj = V0):=hfv
                   have hjZ : jj < ρ.Z:=by omega
                   have HJZ : Hid (jj < ρ.Z):=hjZ
                   subst hjj
                   have i0 : decide ((jj : Int) < 0) = false:=decide_eq_false (by omega)
                   have i1 : decide ((ρ.Z : Int) <= (jj : Int)) = false:=decide_eq_false (by omega)
                   have i2 : (0 : Int) <= (jj : Int):=by omega
                   have i3 : (jj : Int) < (ρ.Z : Int):=by omega
                   clear hfv hix hiz hjZ HO hk2 k3
                   rcases hc with ⟨k,rfl,S'⟩ | ⟨k,ne,rfl,S'⟩ | ⟨k,eq,rfl,S'⟩
                   · have HSH1 : Hid (Shelf 6 (j + 1) q' gen' ls' rs D):=S'
                     obtain rfl : kx = 3:=k
                     clear S'
                     as_aux_lemma =>
                      go_wp2_with (first
                       | (go_at_call 11;refine (ycut _).mono ?_;rintro e w3 ⟨rfl,g3⟩;have f3:=HF.out.grown g3;have G3:=HG.out.grown g3;have hm1:=(fun O=>alloc_cell (G3.r1.cell (i:=K) (x:=.int .u64 H1) HRK1.out) O);have e0:=(fun O=>alloc_cell f3.v.c0 O);have e1:=(fun O=>alloc_cell f3.v.c1 O);have e2:=(fun O=>alloc_cell f3.v.c2 O);have e3:=(fun O=>alloc_cell f3.v.c3 O);have e4:=(fun O=>alloc_cell f3.v.c4 O);have e5:=(fun O=>alloc_cell f3.v.c5 O);have e6:=(fun O=>alloc_cell f3.v.c6 O);have e7:=(fun O=>alloc_cell f3.v.c7 O);have e8:=(fun O=>alloc_cell f3.v.c8 O))
                       | (go_at_call 12;refine (hdo _ (f3.alloc (.cells #[.int .i64 3,.int .i64 sx,.int .u64 H1,.int .i64 (jj : Int),.int .i64 vx,.int .i64 ox,.bool ownx] 36))).mono ?_;rintro e w5 ⟨St,s',σ',rfl,hs1,-,-,-,f5',o5⟩;clear hm1 e0 e1 e2 e3 e4 e5 e6 e7 e8 hdo;have GB5:=grow1 w5 (.cells #[.int .i64 0,.int .u64 0,.int .i64 V0,.int .i64 St] 40);have f5:=f5'.grown GB5;have G5:=((G3.grown (grow1 w3 (.cells #[.int .i64 3,.int .i64 sx,.int .u64 H1,.int .i64 (jj : Int),.int .i64 vx,.int .i64 ox,.bool ownx] 36))).mem o5).grown GB5;have xA:=((At.new w3 36 [.int .i64 3,.int .i64 sx,.int .u64 H1,.int .i64 (jj : Int),.int .i64 vx,.int .i64 ox,.bool ownx]).only o5 f3.ltL).grown GB5;have dN:=At.new w5 40 [.int .i64 0,.int .u64 0,.int .i64 V0,.int .i64 St];have hXD : w3.heap.size < w5.heap.size:=((At.new w3 36 [.int .i64 3,.int .i64 sx,.int .u64 H1,.int .i64 (jj : Int),.int .i64 vx,.int .i64 ox,.bool ownx]).only o5 f3.ltL).lt;have hXG:=(fun b hb=>(G3.lt (b:=b) hb));have hDG:=(fun b hb=>((G3.grown (grow1 w3 (.cells #[.int .i64 3,.int .i64 sx,.int .u64 H1,.int .i64 (jj : Int),.int .i64 vx,.int .i64 ox,.bool ownx] 36))).mem o5).lt (b:=b) hb);have x0:=xA.at0 0 rfl;have x1:=xA.at0 1 rfl;have x3:=xA.at0 3 rfl;have x4:=xA.at0 4 rfl;have x5:=xA.at0 5 rfl;have x6:=xA.at0 6 rfl;have d0:=dN.at0 0 rfl;have d1:=dN.at0 1 rfl;have d2:=dN.at0 2 rfl)
                       | (go_at_call 13;refine (lc _).mono ?_;rintro e w6 ⟨rfl,rfl⟩))
                      have HS1 : Hid (σ' <= σ + 500):=hs1
                      obtain ⟨Xb,hXb⟩ : ∃ X,w3.heap.size = X:=⟨_,rfl⟩
                      obtain ⟨Db,hDb⟩ : ∃ X,w5.heap.size = X:=⟨_,rfl⟩
                      have HXG : Hid (∀ b,Gh rs b1 b2 b3 b -> b < Xb):=by rw [<- hXb];exact hXG
                      have HDG : Hid (∀ b,Gh rs b1 b2 b3 b -> b < Db):=by rw [<- hDb];exact hDG
                      rw [hXb] at xA hXD ⊢
                      rw [hDb] at dN hXD ⊢
                      have HXD : Hid (Xb < Db):=hXD
                      refine wp_over (fun W=>Hut w W L E 1 6 8 40 s' σ' q' nx' gen' ls' /\ Grid w W L E rs D b1 c1 b2 c2 b3 c3 /\ At W Xb 0 36 _ [.int .i64 3,.int .i64 sx,.int .u64 H1,.int .i64 (jj : Int),.int .i64 vx,.int .i64 ox,.bool ownx] /\ At W Db 0 40 _ [.int .i64 0,.int .u64 0,.int .i64 V0,.int .i64 St]) ⟨f5,G5,xA,dN⟩ ?_
                      clear f3 G3 f5' f5 G5 xA dN hXb hDb hXD hXG hDG o5 HF HG x0 x1 x3 x4 x5 x6 d0 d1 d2
                      rintro W ⟨f5,G5,xA,dN⟩
                      have HF5 : Hid (Hut w W L E 1 6 8 40 s' σ' q' nx' gen' ls'):=f5
                      have HG5 : Hid (Grid w W L E rs D b1 c1 b2 c2 b3 c3):=G5
                      clear hs1
                      have x0:=xA.at0 0 rfl
                      have x1:=xA.at0 1 rfl
                      have x3:=xA.at0 3 rfl
                      have x4:=xA.at0 4 rfl
                      have x5:=xA.at0 5 rfl
                      have x6:=xA.at0 6 rfl
                      have d0:=dN.at0 0 rfl
                      have d1:=dN.at0 1 rfl
                      have d2:=dN.at0 2 rfl
                      clear f5 G5 x1 d1
                      have wc : W.cell? ⟨b2,K,none⟩ = some (.slice (some ⟨ρ.b,0,none⟩) ρ.Z ρ.Z):=HG5.out.r2.cell (i:=K) HRK2.out
                      have oc : W.cell? ⟨b3,K,none⟩ = some (.bool ownx):=HG5.out.r3.cell (i:=K) HRK4.out
                      go_region
                      have f6:=HF5.out.drew
                      have G6:=HG5.out.grown ((Below.refl W.heap.size W).drew)
                      have xB:=xA.drew
                      have dM:=dN.drew
                      clear HF5 HG5 xA dN x0 x3 x4 x5 x6 d0 d2 wc oc
                      generalize W.drew = W at f6 G6 xB dM ⊢
                      have xA:=xB
                      have dN:=dM
                      have HF5 : Hid (Hut w W L E 1 6 8 40 s' σ' q' nx' gen' ls'):=f6
                      have HG5 : Hid (Grid w W L E rs D b1 c1 b2 c2 b3 c3):=G6
                      clear f6 G6 xB dM
                      have x0:=xA.at0 0 rfl
                      have x3:=xA.at0 3 rfl
                      have x4:=xA.at0 4 rfl
                      have x5:=xA.at0 5 rfl
                      have x6:=xA.at0 6 rfl
                      have d0:=dN.at0 0 rfl
                      have d2:=dN.at0 2 rfl
                      have wc : W.cell? ⟨b2,K,none⟩ = some (.slice (some ⟨ρ.b,0,none⟩) ρ.Z ρ.Z):=HG5.out.r2.cell (i:=K) HRK2.out
                      have oc : W.cell? ⟨b3,K,none⟩ = some (.bool ownx):=HG5.out.r3.cell (i:=K) HRK4.out
                      go_wp2
                      go_region
                      have f6:=HF5.out.drew
                      have G6:=HG5.out.grown ((Below.refl W.heap.size W).drew)
                      have xB:=xA.drew
                      have dM:=dN.drew
                      clear HF5 HG5 xA dN x0 x3 x4 x5 x6 d0 d2 wc oc
                      generalize W.drew = W at f6 G6 xB dM ⊢
                      have xA:=xB
                      have dN:=dM
                      have HF5 : Hid (Hut w W L E 1 6 8 40 s' σ' q' nx' gen' ls'):=f6
                      have HG5 : Hid (Grid w W L E rs D b1 c1 b2 c2 b3 c3):=G6
                      clear f6 G6 xB dM
                      have x0:=xA.at0 0 rfl
                      have x3:=xA.at0 3 rfl
                      have x4:=xA.at0 4 rfl
                      have x5:=xA.at0 5 rfl
                      have x6:=xA.at0 6 rfl
                      have d0:=dN.at0 0 rfl
                      have d2:=dN.at0 2 rfl
                      have wc : W.cell? ⟨b2,K,none⟩ = some (.slice (some ⟨ρ.b,0,none⟩) ρ.Z ρ.Z):=HG5.out.r2.cell (i:=K) HRK2.out
                      have oc : W.cell? ⟨b3,K,none⟩ = some (.bool ownx):=HG5.out.r3.cell (i:=K) HRK4.out
                      have rc : W.cell? ⟨ρ.b,jj,none⟩ = some (.int .i64 V0):=by have:=(HG5.out.wr K ρ HRO.out HLV.out).cell HJZ.out;rwa [HFV.out] at this
                      go_wp2
                      go_region
                      have f6:=HF5.out.drew
                      have G6:=HG5.out.grown ((Below.refl W.heap.size W).drew)
                      have xB:=xA.drew
                      have dM:=dN.drew
                      clear HF5 HG5 xA dN x0 x3 x4 x5 x6 d0 d2 wc oc rc
                      generalize W.drew = W at f6 G6 xB dM ⊢
                      have xA:=xB
                      have dN:=dM
                      have HF5 : Hid (Hut w W L E 1 6 8 40 s' σ' q' nx' gen' ls'):=f6
                      have HG5 : Hid (Grid w W L E rs D b1 c1 b2 c2 b3 c3):=G6
                      clear f6 G6 xB dM
                      have x0:=xA.at0 0 rfl
                      have x3:=xA.at0 3 rfl
                      have x4:=xA.at0 4 rfl
                      have x5:=xA.at0 5 rfl
                      have x6:=xA.at0 6 rfl
                      have d0:=dN.at0 0 rfl
                      have d2:=dN.at0 2 rfl
                      have wc : W.cell? ⟨b2,K,none⟩ = some (.slice (some ⟨ρ.b,0,none⟩) ρ.Z ρ.Z):=HG5.out.r2.cell (i:=K) HRK2.out
                      have oc : W.cell? ⟨b3,K,none⟩ = some (.bool ownx):=HG5.out.r3.cell (i:=K) HRK4.out
                      have rc : W.cell? ⟨ρ.b,jj,none⟩ = some (.int .i64 V0):=by have:=(HG5.out.wr K ρ HRO.out HLV.out).cell HJZ.out;rwa [HFV.out] at this
                      go_wp2
                      go_roundw
                      case rel=>exact ⟨j + 1,s',σ',q',nx',gen',ls',rs,D,b1,c1,b2,c2,b3,c3,rfl,rfl,rfl,by go_num,by omega,by have:=HS1.out;have:=HSG.out;omega,HF5.out,HG5.out,HSH1.out⟩
                      case measure=>simp [intOf];omega
                   · have HSH1 : Hid (Shelf 6 (j + 1) q' gen' ls' rs D):=S'
                     obtain rfl : kx = 5:=k
                     have o1 : (V0 == ox) = false:=beq_eq_false_iff_ne.2 ne
                     clear S' ne
                     as_aux_lemma =>
                      go_wp2_with (first
                       | (go_at_call 11;refine (ycut _).mono ?_;rintro e w3 ⟨rfl,g3⟩;have f3:=HF.out.grown g3;have G3:=HG.out.grown g3;have hm1:=(fun O=>alloc_cell (G3.r1.cell (i:=K) (x:=.int .u64 H1) HRK1.out) O);have e0:=(fun O=>alloc_cell f3.v.c0 O);have e1:=(fun O=>alloc_cell f3.v.c1 O);have e2:=(fun O=>alloc_cell f3.v.c2 O);have e3:=(fun O=>alloc_cell f3.v.c3 O);have e4:=(fun O=>alloc_cell f3.v.c4 O);have e5:=(fun O=>alloc_cell f3.v.c5 O);have e6:=(fun O=>alloc_cell f3.v.c6 O);have e7:=(fun O=>alloc_cell f3.v.c7 O);have e8:=(fun O=>alloc_cell f3.v.c8 O))
                       | (go_at_call 12;refine (hdo _ (f3.alloc (.cells #[.int .i64 5,.int .i64 sx,.int .u64 H1,.int .i64 (jj : Int),.int .i64 vx,.int .i64 ox,.bool ownx] 36))).mono ?_;rintro e w5 ⟨St,s',σ',rfl,hs1,-,-,-,f5',o5⟩;clear hm1 e0 e1 e2 e3 e4 e5 e6 e7 e8 hdo;have GB5:=grow1 w5 (.cells #[.int .i64 8,.int .u64 0,.int .i64 V0,.int .i64 St] 40);have f5:=f5'.grown GB5;have G5:=((G3.grown (grow1 w3 (.cells #[.int .i64 5,.int .i64 sx,.int .u64 H1,.int .i64 (jj : Int),.int .i64 vx,.int .i64 ox,.bool ownx] 36))).mem o5).grown GB5;have xA:=((At.new w3 36 [.int .i64 5,.int .i64 sx,.int .u64 H1,.int .i64 (jj : Int),.int .i64 vx,.int .i64 ox,.bool ownx]).only o5 f3.ltL).grown GB5;have dN:=At.new w5 40 [.int .i64 8,.int .u64 0,.int .i64 V0,.int .i64 St];have hXD : w3.heap.size < w5.heap.size:=((At.new w3 36 [.int .i64 5,.int .i64 sx,.int .u64 H1,.int .i64 (jj : Int),.int .i64 vx,.int .i64 ox,.bool ownx]).only o5 f3.ltL).lt;have hXG:=(fun b hb=>(G3.lt (b:=b) hb));have hDG:=(fun b hb=>((G3.grown (grow1 w3 (.cells #[.int .i64 5,.int .i64 sx,.int .u64 H1,.int .i64 (jj : Int),.int .i64 vx,.int .i64 ox,.bool ownx] 36))).mem o5).lt (b:=b) hb);have x0:=xA.at0 0 rfl;have x1:=xA.at0 1 rfl;have x3:=xA.at0 3 rfl;have x4:=xA.at0 4 rfl;have x5:=xA.at0 5 rfl;have x6:=xA.at0 6 rfl;have d0:=dN.at0 0 rfl;have d1:=dN.at0 1 rfl;have d2:=dN.at0 2 rfl)
                       | (go_at_call 13;refine (lc _).mono ?_;rintro e w6 ⟨rfl,rfl⟩))
                      have HS1 : Hid (σ' <= σ + 500):=hs1
                      obtain ⟨Xb,hXb⟩ : ∃ X,w3.heap.size = X:=⟨_,rfl⟩
                      obtain ⟨Db,hDb⟩ : ∃ X,w5.heap.size = X:=⟨_,rfl⟩
                      have HXG : Hid (∀ b,Gh rs b1 b2 b3 b -> b < Xb):=by rw [<- hXb];exact hXG
                      have HDG : Hid (∀ b,Gh rs b1 b2 b3 b -> b < Db):=by rw [<- hDb];exact hDG
                      rw [hXb] at xA hXD ⊢
                      rw [hDb] at dN hXD ⊢
                      have HXD : Hid (Xb < Db):=hXD
                      refine wp_over (fun W=>Hut w W L E 1 6 8 40 s' σ' q' nx' gen' ls' /\ Grid w W L E rs D b1 c1 b2 c2 b3 c3 /\ At W Xb 0 36 _ [.int .i64 5,.int .i64 sx,.int .u64 H1,.int .i64 (jj : Int),.int .i64 vx,.int .i64 ox,.bool ownx] /\ At W Db 0 40 _ [.int .i64 8,.int .u64 0,.int .i64 V0,.int .i64 St]) ⟨f5,G5,xA,dN⟩ ?_
                      clear f3 G3 f5' f5 G5 xA dN hXb hDb hXD hXG hDG o5 HF HG x0 x1 x3 x4 x5 x6 d0 d1 d2
                      rintro W ⟨f5,G5,xA,dN⟩
                      have HF5 : Hid (Hut w W L E 1 6 8 40 s' σ' q' nx' gen' ls'):=f5
                      have HG5 : Hid (Grid w W L E rs D b1 c1 b2 c2 b3 c3):=G5
                      clear hs1
                      have x0:=xA.at0 0 rfl
                      have x1:=xA.at0 1 rfl
                      have x3:=xA.at0 3 rfl
                      have x4:=xA.at0 4 rfl
                      have x5:=xA.at0 5 rfl
                      have x6:=xA.at0 6 rfl
                      have d0:=dN.at0 0 rfl
                      have d1:=dN.at0 1 rfl
                      have d2:=dN.at0 2 rfl
                      clear f5 G5 x1 d1
                      have wc : W.cell? ⟨b2,K,none⟩ = some (.slice (some ⟨ρ.b,0,none⟩) ρ.Z ρ.Z):=HG5.out.r2.cell (i:=K) HRK2.out
                      have oc : W.cell? ⟨b3,K,none⟩ = some (.bool ownx):=HG5.out.r3.cell (i:=K) HRK4.out
                      go_region
                      have f6:=HF5.out.drew
                      have G6:=HG5.out.grown ((Below.refl W.heap.size W).drew)
                      have xB:=xA.drew
                      have dM:=dN.drew
                      clear HF5 HG5 xA dN x0 x3 x4 x5 x6 d0 d2 wc oc
                      generalize W.drew = W at f6 G6 xB dM ⊢
                      have xA:=xB
                      have dN:=dM
                      have HF5 : Hid (Hut w W L E 1 6 8 40 s' σ' q' nx' gen' ls'):=f6
                      have HG5 : Hid (Grid w W L E rs D b1 c1 b2 c2 b3 c3):=G6
                      clear f6 G6 xB dM
                      have x0:=xA.at0 0 rfl
                      have x3:=xA.at0 3 rfl
                      have x4:=xA.at0 4 rfl
                      have x5:=xA.at0 5 rfl
                      have x6:=xA.at0 6 rfl
                      have d0:=dN.at0 0 rfl
                      have d2:=dN.at0 2 rfl
                      have wc : W.cell? ⟨b2,K,none⟩ = some (.slice (some ⟨ρ.b,0,none⟩) ρ.Z ρ.Z):=HG5.out.r2.cell (i:=K) HRK2.out
                      have oc : W.cell? ⟨b3,K,none⟩ = some (.bool ownx):=HG5.out.r3.cell (i:=K) HRK4.out
                      go_wp2
                      go_region
                      have f6:=HF5.out.drew
                      have G6:=HG5.out.grown ((Below.refl W.heap.size W).drew)
                      have xB:=xA.drew
                      have dM:=dN.drew
                      clear HF5 HG5 xA dN x0 x3 x4 x5 x6 d0 d2 wc oc
                      generalize W.drew = W at f6 G6 xB dM ⊢
                      have xA:=xB
                      have dN:=dM
                      have HF5 : Hid (Hut w W L E 1 6 8 40 s' σ' q' nx' gen' ls'):=f6
                      have HG5 : Hid (Grid w W L E rs D b1 c1 b2 c2 b3 c3):=G6
                      clear f6 G6 xB dM
                      have x0:=xA.at0 0 rfl
                      have x3:=xA.at0 3 rfl
                      have x4:=xA.at0 4 rfl
                      have x5:=xA.at0 5 rfl
                      have x6:=xA.at0 6 rfl
                      have d0:=dN.at0 0 rfl
                      have d2:=dN.at0 2 rfl
                      have wc : W.cell? ⟨b2,K,none⟩ = some (.slice (some ⟨ρ.b,0,none⟩) ρ.Z ρ.Z):=HG5.out.r2.cell (i:=K) HRK2.out
                      have oc : W.cell? ⟨b3,K,none⟩ = some (.bool ownx):=HG5.out.r3.cell (i:=K) HRK4.out
                      have rc : W.cell? ⟨ρ.b,jj,none⟩ = some (.int .i64 V0):=by have:=(HG5.out.wr K ρ HRO.out HLV.out).cell HJZ.out;rwa [HFV.out] at this
                      go_wp2
                      go_region
                      have f6:=HF5.out.drew
                      have G6:=HG5.out.grown ((Below.refl W.heap.size W).drew)
                      have xB:=xA.drew
                      have dM:=dN.drew
                      clear HF5 HG5 xA dN x0 x3 x4 x5 x6 d0 d2 wc oc rc
                      generalize W.drew = W at f6 G6 xB dM ⊢
                      have xA:=xB
                      have dN:=dM
                      have HF5 : Hid (Hut w W L E 1 6 8 40 s' σ' q' nx' gen' ls'):=f6
                      have HG5 : Hid (Grid w W L E rs D b1 c1 b2 c2 b3 c3):=G6
                      clear f6 G6 xB dM
                      have x0:=xA.at0 0 rfl
                      have x3:=xA.at0 3 rfl
                      have x4:=xA.at0 4 rfl
                      have x5:=xA.at0 5 rfl
                      have x6:=xA.at0 6 rfl
                      have d0:=dN.at0 0 rfl
                      have d2:=dN.at0 2 rfl
                      have wc : W.cell? ⟨b2,K,none⟩ = some (.slice (some ⟨ρ.b,0,none⟩) ρ.Z ρ.Z):=HG5.out.r2.cell (i:=K) HRK2.out
                      have oc : W.cell? ⟨b3,K,none⟩ = some (.bool ownx):=HG5.out.r3.cell (i:=K) HRK4.out
                      have rc : W.cell? ⟨ρ.b,jj,none⟩ = some (.int .i64 V0):=by have:=(HG5.out.wr K ρ HRO.out HLV.out).cell HJZ.out;rwa [HFV.out] at this
                      go_wp2
                      go_roundw
                      case rel=>exact ⟨j + 1,s',σ',q',nx',gen',ls',rs,D,b1,c1,b2,c2,b3,c3,rfl,rfl,rfl,by go_num,by omega,by have:=HS1.out;have:=HSG.out;omega,HF5.out,HG5.out,HSH1.out⟩
                      case measure=>simp [intOf];omega
                   · have HSH1 : Hid (Shelf 6 (j + 1) q' gen' ls' rs (fun K' j'=>if K' = K /\ j' = jj then vx else D K' j')):=S'
                     by_cases k5' : kx = 5
                     · subst k5'
                       have o1 : (V0 == ox) = true:=beq_iff_eq.2 (eq rfl)
                       clear S' eq k
                       as_aux_lemma =>
                        go_wp2_with (first
                         | (go_at_call 11;refine (ycut _).mono ?_;rintro e w3 ⟨rfl,g3⟩;have f3:=HF.out.grown g3;have G3:=HG.out.grown g3;have hm1:=(fun O=>alloc_cell (G3.r1.cell (i:=K) (x:=.int .u64 H1) HRK1.out) O);have e0:=(fun O=>alloc_cell f3.v.c0 O);have e1:=(fun O=>alloc_cell f3.v.c1 O);have e2:=(fun O=>alloc_cell f3.v.c2 O);have e3:=(fun O=>alloc_cell f3.v.c3 O);have e4:=(fun O=>alloc_cell f3.v.c4 O);have e5:=(fun O=>alloc_cell f3.v.c5 O);have e6:=(fun O=>alloc_cell f3.v.c6 O);have e7:=(fun O=>alloc_cell f3.v.c7 O);have e8:=(fun O=>alloc_cell f3.v.c8 O))
                         | (go_at_call 12;refine (hdo _ (f3.alloc (.cells #[.int .i64 5,.int .i64 sx,.int .u64 H1,.int .i64 (jj : Int),.int .i64 vx,.int .i64 ox,.bool ownx] 36))).mono ?_;rintro e w5 ⟨St,s',σ',rfl,hs1,-,-,-,f5',o5⟩;clear hm1 e0 e1 e2 e3 e4 e5 e6 e7 e8 hdo;have GB5:=grow1 w5 (.cells #[.int .i64 0,.int .u64 0,.int .i64 V0,.int .i64 St] 40);have f5:=f5'.grown GB5;have G5:=((G3.grown (grow1 w3 (.cells #[.int .i64 5,.int .i64 sx,.int .u64 H1,.int .i64 (jj : Int),.int .i64 vx,.int .i64 ox,.bool ownx] 36))).mem o5).grown GB5;have xA:=((At.new w3 36 [.int .i64 5,.int .i64 sx,.int .u64 H1,.int .i64 (jj : Int),.int .i64 vx,.int .i64 ox,.bool ownx]).only o5 f3.ltL).grown GB5;have dN:=At.new w5 40 [.int .i64 0,.int .u64 0,.int .i64 V0,.int .i64 St];have hXD : w3.heap.size < w5.heap.size:=((At.new w3 36 [.int .i64 5,.int .i64 sx,.int .u64 H1,.int .i64 (jj : Int),.int .i64 vx,.int .i64 ox,.bool ownx]).only o5 f3.ltL).lt;have hXG:=(fun b hb=>(G3.lt (b:=b) hb));have hDG:=(fun b hb=>((G3.grown (grow1 w3 (.cells #[.int .i64 5,.int .i64 sx,.int .u64 H1,.int .i64 (jj : Int),.int .i64 vx,.int .i64 ox,.bool ownx] 36))).mem o5).lt (b:=b) hb);have x0:=xA.at0 0 rfl;have x1:=xA.at0 1 rfl;have x3:=xA.at0 3 rfl;have x4:=xA.at0 4 rfl;have x5:=xA.at0 5 rfl;have x6:=xA.at0 6 rfl;have d0:=dN.at0 0 rfl;have d1:=dN.at0 1 rfl;have d2:=dN.at0 2 rfl)
                         | (go_at_call 13;refine (lc _).mono ?_;rintro e w6 ⟨rfl,rfl⟩))
                        have HS1 : Hid (σ' <= σ + 500):=hs1
                        obtain ⟨Xb,hXb⟩ : ∃ X,w3.heap.size = X:=⟨_,rfl⟩
                        obtain ⟨Db,hDb⟩ : ∃ X,w5.heap.size = X:=⟨_,rfl⟩
                        have HXG : Hid (∀ b,Gh rs b1 b2 b3 b -> b < Xb):=by rw [<- hXb];exact hXG
                        have HDG : Hid (∀ b,Gh rs b1 b2 b3 b -> b < Db):=by rw [<- hDb];exact hDG
                        rw [hXb] at xA hXD ⊢
                        rw [hDb] at dN hXD ⊢
                        have HXD : Hid (Xb < Db):=hXD
                        refine wp_over (fun W=>Hut w W L E 1 6 8 40 s' σ' q' nx' gen' ls' /\ Grid w W L E rs D b1 c1 b2 c2 b3 c3 /\ At W Xb 0 36 _ [.int .i64 5,.int .i64 sx,.int .u64 H1,.int .i64 (jj : Int),.int .i64 vx,.int .i64 ox,.bool ownx] /\ At W Db 0 40 _ [.int .i64 0,.int .u64 0,.int .i64 V0,.int .i64 St]) ⟨f5,G5,xA,dN⟩ ?_
                        clear f3 G3 f5' f5 G5 xA dN hXb hDb hXD hXG hDG o5 HF HG x0 x1 x3 x4 x5 x6 d0 d1 d2
                        rintro W ⟨f5,G5,xA,dN⟩
                        have HF5 : Hid (Hut w W L E 1 6 8 40 s' σ' q' nx' gen' ls'):=f5
                        have HG5 : Hid (Grid w W L E rs D b1 c1 b2 c2 b3 c3):=G5
                        clear hs1
                        have x0:=xA.at0 0 rfl
                        have x1:=xA.at0 1 rfl
                        have x3:=xA.at0 3 rfl
                        have x4:=xA.at0 4 rfl
                        have x5:=xA.at0 5 rfl
                        have x6:=xA.at0 6 rfl
                        have d0:=dN.at0 0 rfl
                        have d1:=dN.at0 1 rfl
                        have d2:=dN.at0 2 rfl
                        clear f5 G5 x1 d1
                        have wc : W.cell? ⟨b2,K,none⟩ = some (.slice (some ⟨ρ.b,0,none⟩) ρ.Z ρ.Z):=HG5.out.r2.cell (i:=K) HRK2.out
                        have oc : W.cell? ⟨b3,K,none⟩ = some (.bool ownx):=HG5.out.r3.cell (i:=K) HRK4.out
                        go_region
                        have f6:=HF5.out.drew
                        have G6:=HG5.out.grown ((Below.refl W.heap.size W).drew)
                        have xB:=xA.drew
                        have dM:=dN.drew
                        clear HF5 HG5 xA dN x0 x3 x4 x5 x6 d0 d2 wc oc
                        generalize W.drew = W at f6 G6 xB dM ⊢
                        have xA:=xB
                        have dN:=dM
                        have HF5 : Hid (Hut w W L E 1 6 8 40 s' σ' q' nx' gen' ls'):=f6
                        have HG5 : Hid (Grid w W L E rs D b1 c1 b2 c2 b3 c3):=G6
                        clear f6 G6 xB dM
                        have x0:=xA.at0 0 rfl
                        have x3:=xA.at0 3 rfl
                        have x4:=xA.at0 4 rfl
                        have x5:=xA.at0 5 rfl
                        have x6:=xA.at0 6 rfl
                        have d0:=dN.at0 0 rfl
                        have d2:=dN.at0 2 rfl
                        have wc : W.cell? ⟨b2,K,none⟩ = some (.slice (some ⟨ρ.b,0,none⟩) ρ.Z ρ.Z):=HG5.out.r2.cell (i:=K) HRK2.out
                        have oc : W.cell? ⟨b3,K,none⟩ = some (.bool ownx):=HG5.out.r3.cell (i:=K) HRK4.out
                        go_wp2
                        go_region
                        have f6:=HF5.out.drew
                        have G6:=HG5.out.grown ((Below.refl W.heap.size W).drew)
                        have xB:=xA.drew
                        have dM:=dN.drew
                        clear HF5 HG5 xA dN x0 x3 x4 x5 x6 d0 d2 wc oc
                        generalize W.drew = W at f6 G6 xB dM ⊢
                        have xA:=xB
                        have dN:=dM
                        have HF5 : Hid (Hut w W L E 1 6 8 40 s' σ' q' nx' gen' ls'):=f6
                        have HG5 : Hid (Grid w W L E rs D b1 c1 b2 c2 b3 c3):=G6
                        clear f6 G6 xB dM
                        have x0:=xA.at0 0 rfl
                        have x3:=xA.at0 3 rfl
                        have x4:=xA.at0 4 rfl
                        have x5:=xA.at0 5 rfl
                        have x6:=xA.at0 6 rfl
                        have d0:=dN.at0 0 rfl
                        have d2:=dN.at0 2 rfl
                        have wc : W.cell? ⟨b2,K,none⟩ = some (.slice (some ⟨ρ.b,0,none⟩) ρ.Z ρ.Z):=HG5.out.r2.cell (i:=K) HRK2.out
                        have oc : W.cell? ⟨b3,K,none⟩ = some (.bool ownx):=HG5.out.r3.cell (i:=K) HRK4.out
                        have rc : W.cell? ⟨ρ.b,jj,none⟩ = some (.int .i64 V0):=by have:=(HG5.out.wr K ρ HRO.out HLV.out).cell HJZ.out;rwa [HFV.out] at this
                        go_wp2
                        go_region
                        have f6:=HF5.out.drew
                        have G6:=HG5.out.grown ((Below.refl W.heap.size W).drew)
                        have xB:=xA.drew
                        have dM:=dN.drew
                        clear HF5 HG5 xA dN x0 x3 x4 x5 x6 d0 d2 wc oc rc
                        generalize W.drew = W at f6 G6 xB dM ⊢
                        have xA:=xB
                        have dN:=dM
                        have HF5 : Hid (Hut w W L E 1 6 8 40 s' σ' q' nx' gen' ls'):=f6
                        have HG5 : Hid (Grid w W L E rs D b1 c1 b2 c2 b3 c3):=G6
                        clear f6 G6 xB dM
                        have x0:=xA.at0 0 rfl
                        have x3:=xA.at0 3 rfl
                        have x4:=xA.at0 4 rfl
                        have x5:=xA.at0 5 rfl
                        have x6:=xA.at0 6 rfl
                        have d0:=dN.at0 0 rfl
                        have d2:=dN.at0 2 rfl
                        have wc : W.cell? ⟨b2,K,none⟩ = some (.slice (some ⟨ρ.b,0,none⟩) ρ.Z ρ.Z):=HG5.out.r2.cell (i:=K) HRK2.out
                        have oc : W.cell? ⟨b3,K,none⟩ = some (.bool ownx):=HG5.out.r3.cell (i:=K) HRK4.out
                        have rc : W.cell? ⟨ρ.b,jj,none⟩ = some (.int .i64 V0):=by have:=(HG5.out.wr K ρ HRO.out HLV.out).cell HJZ.out;rwa [HFV.out] at this
                        go_wp2
                        have rf : ∀ i,W.frozen? ⟨ρ.b,i,none⟩ = false:=fun i=>(HG5.out.wr K ρ HRO.out HLV.out).frozen i
                        go_region
                        go_wp2
                        go_roundw
                        case rel =>
                         have lo:=HG5.out.fr K ρ HRO.out HLV.out
                         exact ⟨j + 1,s',σ',q',nx',gen',ls',rs,(fun K' j'=>if K' = K /\ j' = jj then vx else D K' j'),b1,c1,b2,c2,b3,c3,rfl,rfl,rfl,by go_num,by omega,by have:=HS1.out;have:=HSG.out;omega,(HF5.out.setIn lo.p lo.e lo.l jj (.int .i64 vx)).drew,(HG5.out.set HRO.out HLV.out jj vx).grown ((Below.refl _ _).drew),HSH1.out⟩
                        case measure=>simp [intOf];omega
                     · obtain rfl : kx = 4:=by have k : kx ≠ 3:=k;have:=HK3.out;omega
                       clear S' eq k k5'
                       as_aux_lemma =>
                        go_wp2_with (first
                         | (go_at_call 11;refine (ycut _).mono ?_;rintro e w3 ⟨rfl,g3⟩;have f3:=HF.out.grown g3;have G3:=HG.out.grown g3;have hm1:=(fun O=>alloc_cell (G3.r1.cell (i:=K) (x:=.int .u64 H1) HRK1.out) O);have e0:=(fun O=>alloc_cell f3.v.c0 O);have e1:=(fun O=>alloc_cell f3.v.c1 O);have e2:=(fun O=>alloc_cell f3.v.c2 O);have e3:=(fun O=>alloc_cell f3.v.c3 O);have e4:=(fun O=>alloc_cell f3.v.c4 O);have e5:=(fun O=>alloc_cell f3.v.c5 O);have e6:=(fun O=>alloc_cell f3.v.c6 O);have e7:=(fun O=>alloc_cell f3.v.c7 O);have e8:=(fun O=>alloc_cell f3.v.c8 O))
                         | (go_at_call 12;refine (hdo _ (f3.alloc (.cells #[.int .i64 4,.int .i64 sx,.int .u64 H1,.int .i64 (jj : Int),.int .i64 vx,.int .i64 ox,.bool ownx] 36))).mono ?_;rintro e w5 ⟨St,s',σ',rfl,hs1,-,-,-,f5',o5⟩;clear hm1 e0 e1 e2 e3 e4 e5 e6 e7 e8 hdo;have GB5:=grow1 w5 (.cells #[.int .i64 0,.int .u64 0,.int .i64 V0,.int .i64 St] 40);have f5:=f5'.grown GB5;have G5:=((G3.grown (grow1 w3 (.cells #[.int .i64 4,.int .i64 sx,.int .u64 H1,.int .i64 (jj : Int),.int .i64 vx,.int .i64 ox,.bool ownx] 36))).mem o5).grown GB5;have xA:=((At.new w3 36 [.int .i64 4,.int .i64 sx,.int .u64 H1,.int .i64 (jj : Int),.int .i64 vx,.int .i64 ox,.bool ownx]).only o5 f3.ltL).grown GB5;have dN:=At.new w5 40 [.int .i64 0,.int .u64 0,.int .i64 V0,.int .i64 St];have hXD : w3.heap.size < w5.heap.size:=((At.new w3 36 [.int .i64 4,.int .i64 sx,.int .u64 H1,.int .i64 (jj : Int),.int .i64 vx,.int .i64 ox,.bool ownx]).only o5 f3.ltL).lt;have hXG:=(fun b hb=>(G3.lt (b:=b) hb));have hDG:=(fun b hb=>((G3.grown (grow1 w3 (.cells #[.int .i64 4,.int .i64 sx,.int .u64 H1,.int .i64 (jj : Int),.int .i64 vx,.int .i64 ox,.bool ownx] 36))).mem o5).lt (b:=b) hb);have x0:=xA.at0 0 rfl;have x1:=xA.at0 1 rfl;have x3:=xA.at0 3 rfl;have x4:=xA.at0 4 rfl;have x5:=xA.at0 5 rfl;have x6:=xA.at0 6 rfl;have d0:=dN.at0 0 rfl;have d1:=dN.at0 1 rfl;have d2:=dN.at0 2 rfl)
                         | (go_at_call 13;refine (lc _).mono ?_;rintro e w6 ⟨rfl,rfl⟩))
                        have HS1 : Hid (σ' <= σ + 500):=hs1
                        obtain ⟨Xb,hXb⟩ : ∃ X,w3.heap.size = X:=⟨_,rfl⟩
                        obtain ⟨Db,hDb⟩ : ∃ X,w5.heap.size = X:=⟨_,rfl⟩
                        have HXG : Hid (∀ b,Gh rs b1 b2 b3 b -> b < Xb):=by rw [<- hXb];exact hXG
                        have HDG : Hid (∀ b,Gh rs b1 b2 b3 b -> b < Db):=by rw [<- hDb];exact hDG
                        rw [hXb] at xA hXD ⊢
                        rw [hDb] at dN hXD ⊢
                        have HXD : Hid (Xb < Db):=hXD
                        refine wp_over (fun W=>Hut w W L E 1 6 8 40 s' σ' q' nx' gen' ls' /\ Grid w W L E rs D b1 c1 b2 c2 b3 c3 /\ At W Xb 0 36 _ [.int .i64 4,.int .i64 sx,.int .u64 H1,.int .i64 (jj : Int),.int .i64 vx,.int .i64 ox,.bool ownx] /\ At W Db 0 40 _ [.int .i64 0,.int .u64 0,.int .i64 V0,.int .i64 St]) ⟨f5,G5,xA,dN⟩ ?_
                        clear f3 G3 f5' f5 G5 xA dN hXb hDb hXD hXG hDG o5 HF HG x0 x1 x3 x4 x5 x6 d0 d1 d2
                        rintro W ⟨f5,G5,xA,dN⟩
                        have HF5 : Hid (Hut w W L E 1 6 8 40 s' σ' q' nx' gen' ls'):=f5
                        have HG5 : Hid (Grid w W L E rs D b1 c1 b2 c2 b3 c3):=G5
                        clear hs1
                        have x0:=xA.at0 0 rfl
                        have x1:=xA.at0 1 rfl
                        have x3:=xA.at0 3 rfl
                        have x4:=xA.at0 4 rfl
                        have x5:=xA.at0 5 rfl
                        have x6:=xA.at0 6 rfl
                        have d0:=dN.at0 0 rfl
                        have d1:=dN.at0 1 rfl
                        have d2:=dN.at0 2 rfl
                        clear f5 G5 x1 d1
                        have wc : W.cell? ⟨b2,K,none⟩ = some (.slice (some ⟨ρ.b,0,none⟩) ρ.Z ρ.Z):=HG5.out.r2.cell (i:=K) HRK2.out
                        have oc : W.cell? ⟨b3,K,none⟩ = some (.bool ownx):=HG5.out.r3.cell (i:=K) HRK4.out
                        go_region
                        have f6:=HF5.out.drew
                        have G6:=HG5.out.grown ((Below.refl W.heap.size W).drew)
                        have xB:=xA.drew
                        have dM:=dN.drew
                        clear HF5 HG5 xA dN x0 x3 x4 x5 x6 d0 d2 wc oc
                        generalize W.drew = W at f6 G6 xB dM ⊢
                        have xA:=xB
                        have dN:=dM
                        have HF5 : Hid (Hut w W L E 1 6 8 40 s' σ' q' nx' gen' ls'):=f6
                        have HG5 : Hid (Grid w W L E rs D b1 c1 b2 c2 b3 c3):=G6
                        clear f6 G6 xB dM
                        have x0:=xA.at0 0 rfl
                        have x3:=xA.at0 3 rfl
                        have x4:=xA.at0 4 rfl
                        have x5:=xA.at0 5 rfl
                        have x6:=xA.at0 6 rfl
                        have d0:=dN.at0 0 rfl
                        have d2:=dN.at0 2 rfl
                        have wc : W.cell? ⟨b2,K,none⟩ = some (.slice (some ⟨ρ.b,0,none⟩) ρ.Z ρ.Z):=HG5.out.r2.cell (i:=K) HRK2.out
                        have oc : W.cell? ⟨b3,K,none⟩ = some (.bool ownx):=HG5.out.r3.cell (i:=K) HRK4.out
                        go_wp2
                        go_region
                        have f6:=HF5.out.drew
                        have G6:=HG5.out.grown ((Below.refl W.heap.size W).drew)
                        have xB:=xA.drew
                        have dM:=dN.drew
                        clear HF5 HG5 xA dN x0 x3 x4 x5 x6 d0 d2 wc oc
                        generalize W.drew = W at f6 G6 xB dM ⊢
                        have xA:=xB
                        have dN:=dM
                        have HF5 : Hid (Hut w W L E 1 6 8 40 s' σ' q' nx' gen' ls'):=f6
                        have HG5 : Hid (Grid w W L E rs D b1 c1 b2 c2 b3 c3):=G6
                        clear f6 G6 xB dM
                        have x0:=xA.at0 0 rfl
                        have x3:=xA.at0 3 rfl
                        have x4:=xA.at0 4 rfl
                        have x5:=xA.at0 5 rfl
                        have x6:=xA.at0 6 rfl
                        have d0:=dN.at0 0 rfl
                        have d2:=dN.at0 2 rfl
                        have wc : W.cell? ⟨b2,K,none⟩ = some (.slice (some ⟨ρ.b,0,none⟩) ρ.Z ρ.Z):=HG5.out.r2.cell (i:=K) HRK2.out
                        have oc : W.cell? ⟨b3,K,none⟩ = some (.bool ownx):=HG5.out.r3.cell (i:=K) HRK4.out
                        have rc : W.cell? ⟨ρ.b,jj,none⟩ = some (.int .i64 V0):=by have:=(HG5.out.wr K ρ HRO.out HLV.out).cell HJZ.out;rwa [HFV.out] at this
                        go_wp2
                        go_region
                        have f6:=HF5.out.drew
                        have G6:=HG5.out.grown ((Below.refl W.heap.size W).drew)
                        have xB:=xA.drew
                        have dM:=dN.drew
                        clear HF5 HG5 xA dN x0 x3 x4 x5 x6 d0 d2 wc oc rc
                        generalize W.drew = W at f6 G6 xB dM ⊢
                        have xA:=xB
                        have dN:=dM
                        have HF5 : Hid (Hut w W L E 1 6 8 40 s' σ' q' nx' gen' ls'):=f6
                        have HG5 : Hid (Grid w W L E rs D b1 c1 b2 c2 b3 c3):=G6
                        clear f6 G6 xB dM
                        have x0:=xA.at0 0 rfl
                        have x3:=xA.at0 3 rfl
                        have x4:=xA.at0 4 rfl
                        have x5:=xA.at0 5 rfl
                        have x6:=xA.at0 6 rfl
                        have d0:=dN.at0 0 rfl
                        have d2:=dN.at0 2 rfl
                        have wc : W.cell? ⟨b2,K,none⟩ = some (.slice (some ⟨ρ.b,0,none⟩) ρ.Z ρ.Z):=HG5.out.r2.cell (i:=K) HRK2.out
                        have oc : W.cell? ⟨b3,K,none⟩ = some (.bool ownx):=HG5.out.r3.cell (i:=K) HRK4.out
                        have rc : W.cell? ⟨ρ.b,jj,none⟩ = some (.int .i64 V0):=by have:=(HG5.out.wr K ρ HRO.out HLV.out).cell HJZ.out;rwa [HFV.out] at this
                        go_wp2
                        have rf : ∀ i,W.frozen? ⟨ρ.b,i,none⟩ = false:=fun i=>(HG5.out.wr K ρ HRO.out HLV.out).frozen i
                        go_region
                        go_wp2
                        go_roundw
                        case rel =>
                         have lo:=HG5.out.fr K ρ HRO.out HLV.out
                         exact ⟨j + 1,s',σ',q',nx',gen',ls',rs,(fun K' j'=>if K' = K /\ j' = jj then vx else D K' j'),b1,c1,b2,c2,b3,c3,rfl,rfl,rfl,by go_num,by omega,by have:=HS1.out;have:=HSG.out;omega,(HF5.out.setIn lo.p lo.e lo.l jj (.int .i64 vx)).drew,(HG5.out.set HRO.out HLV.out jj vx).grown ((Below.refl _ _).drew),HSH1.out⟩
                        case measure=>simp [intOf];omega
                 · obtain ⟨rfl,rfl,rfl,rfl,rfl,rfl,rfl⟩:=HSH.out.idx HTM.out (by decide) HRO.out HLV.out HHH.out HOWN.out k3 (fun h=>hiz h.2) HO.out
                   have HSH1 : Hid (Shelf 6 (j + 1) q' gen' ls' rs D):=HSH.out.keep (fun _ _ _ _=>rfl)
                   have i0 : decide (ix < 0) = false:=decide_eq_false (by omega)
                   have i1 : decide ((ρ.Z : Int) <= ix) = true:=decide_eq_true (by omega)
                   clear hix hiz HO hk2 k3
                   as_aux_lemma =>
                    go_wp2_with (first
                     | (go_at_call 11;refine (ycut _).mono ?_;rintro e w3 ⟨rfl,g3⟩;have f3:=HF.out.grown g3;have G3:=HG.out.grown g3;have hm1:=(fun O=>alloc_cell (G3.r1.cell (i:=K) (x:=.int .u64 H1) HRK1.out) O);have e0:=(fun O=>alloc_cell f3.v.c0 O);have e1:=(fun O=>alloc_cell f3.v.c1 O);have e2:=(fun O=>alloc_cell f3.v.c2 O);have e3:=(fun O=>alloc_cell f3.v.c3 O);have e4:=(fun O=>alloc_cell f3.v.c4 O);have e5:=(fun O=>alloc_cell f3.v.c5 O);have e6:=(fun O=>alloc_cell f3.v.c6 O);have e7:=(fun O=>alloc_cell f3.v.c7 O);have e8:=(fun O=>alloc_cell f3.v.c8 O))
                     | (go_at_call 12;refine (hdo _ (f3.alloc (.cells #[.int .i64 kx,.int .i64 sx,.int .u64 H1,.int .i64 ix,.int .i64 vx,.int .i64 ox,.bool ownx] 36))).mono ?_;rintro e w5 ⟨St,s',σ',rfl,hs1,-,-,-,f5',o5⟩;clear hm1 e0 e1 e2 e3 e4 e5 e6 e7 e8 hdo;have GB5:=grow1 w5 (.cells #[.int .i64 4,.int .u64 0,.int .i64 0,.int .i64 St] 40);have f5:=f5'.grown GB5;have G5:=((G3.grown (grow1 w3 (.cells #[.int .i64 kx,.int .i64 sx,.int .u64 H1,.int .i64 ix,.int .i64 vx,.int .i64 ox,.bool ownx] 36))).mem o5).grown GB5;have xA:=((At.new w3 36 [.int .i64 kx,.int .i64 sx,.int .u64 H1,.int .i64 ix,.int .i64 vx,.int .i64 ox,.bool ownx]).only o5 f3.ltL).grown GB5;have dN:=At.new w5 40 [.int .i64 4,.int .u64 0,.int .i64 0,.int .i64 St];have hXD : w3.heap.size < w5.heap.size:=((At.new w3 36 [.int .i64 kx,.int .i64 sx,.int .u64 H1,.int .i64 ix,.int .i64 vx,.int .i64 ox,.bool ownx]).only o5 f3.ltL).lt;have hXG:=(fun b hb=>(G3.lt (b:=b) hb));have hDG:=(fun b hb=>((G3.grown (grow1 w3 (.cells #[.int .i64 kx,.int .i64 sx,.int .u64 H1,.int .i64 ix,.int .i64 vx,.int .i64 ox,.bool ownx] 36))).mem o5).lt (b:=b) hb);have x0:=xA.at0 0 rfl;have x1:=xA.at0 1 rfl;have x3:=xA.at0 3 rfl;have x4:=xA.at0 4 rfl;have x5:=xA.at0 5 rfl;have x6:=xA.at0 6 rfl;have d0:=dN.at0 0 rfl;have d1:=dN.at0 1 rfl;have d2:=dN.at0 2 rfl)
                     | (go_at_call 13;refine (lc _).mono ?_;rintro e w6 ⟨rfl,rfl⟩))
                    have HS1 : Hid (σ' <= σ + 500):=hs1
                    obtain ⟨Xb,hXb⟩ : ∃ X,w3.heap.size = X:=⟨_,rfl⟩
                    obtain ⟨Db,hDb⟩ : ∃ X,w5.heap.size = X:=⟨_,rfl⟩
                    have HXG : Hid (∀ b,Gh rs b1 b2 b3 b -> b < Xb):=by rw [<- hXb];exact hXG
                    have HDG : Hid (∀ b,Gh rs b1 b2 b3 b -> b < Db):=by rw [<- hDb];exact hDG
                    rw [hXb] at xA hXD ⊢
                    rw [hDb] at dN hXD ⊢
                    have HXD : Hid (Xb < Db):=hXD
                    refine wp_over (fun W=>Hut w W L E 1 6 8 40 s' σ' q' nx' gen' ls' /\ Grid w W L E rs D b1 c1 b2 c2 b3 c3 /\ At W Xb 0 36 _ [.int .i64 kx,.int .i64 sx,.int .u64 H1,.int .i64 ix,.int .i64 vx,.int .i64 ox,.bool ownx] /\ At W Db 0 40 _ [.int .i64 4,.int .u64 0,.int .i64 0,.int .i64 St]) ⟨f5,G5,xA,dN⟩ ?_
                    clear f3 G3 f5' f5 G5 xA dN hXb hDb hXD hXG hDG o5 HF HG x0 x1 x3 x4 x5 x6 d0 d1 d2
                    rintro W ⟨f5,G5,xA,dN⟩
                    have HF5 : Hid (Hut w W L E 1 6 8 40 s' σ' q' nx' gen' ls'):=f5
                    have HG5 : Hid (Grid w W L E rs D b1 c1 b2 c2 b3 c3):=G5
                    clear hs1
                    have x0:=xA.at0 0 rfl
                    have x1:=xA.at0 1 rfl
                    have x3:=xA.at0 3 rfl
                    have x4:=xA.at0 4 rfl
                    have x5:=xA.at0 5 rfl
                    have x6:=xA.at0 6 rfl
                    have d0:=dN.at0 0 rfl
                    have d1:=dN.at0 1 rfl
                    have d2:=dN.at0 2 rfl
                    clear f5 G5 x1 d1
                    have wc : W.cell? ⟨b2,K,none⟩ = some (.slice (some ⟨ρ.b,0,none⟩) ρ.Z ρ.Z):=HG5.out.r2.cell (i:=K) HRK2.out
                    have oc : W.cell? ⟨b3,K,none⟩ = some (.bool ownx):=HG5.out.r3.cell (i:=K) HRK4.out
                    go_region
                    have f6:=HF5.out.drew
                    have G6:=HG5.out.grown ((Below.refl W.heap.size W).drew)
                    have xB:=xA.drew
                    have dM:=dN.drew
                    clear HF5 HG5 xA dN x0 x3 x4 x5 x6 d0 d2 wc oc
                    generalize W.drew = W at f6 G6 xB dM ⊢
                    have xA:=xB
                    have dN:=dM
                    have HF5 : Hid (Hut w W L E 1 6 8 40 s' σ' q' nx' gen' ls'):=f6
                    have HG5 : Hid (Grid w W L E rs D b1 c1 b2 c2 b3 c3):=G6
                    clear f6 G6 xB dM
                    have x0:=xA.at0 0 rfl
                    have x3:=xA.at0 3 rfl
                    have x4:=xA.at0 4 rfl
                    have x5:=xA.at0 5 rfl
                    have x6:=xA.at0 6 rfl
                    have d0:=dN.at0 0 rfl
                    have d2:=dN.at0 2 rfl
                    have wc : W.cell? ⟨b2,K,none⟩ = some (.slice (some ⟨ρ.b,0,none⟩) ρ.Z ρ.Z):=HG5.out.r2.cell (i:=K) HRK2.out
                    have oc : W.cell? ⟨b3,K,none⟩ = some (.bool ownx):=HG5.out.r3.cell (i:=K) HRK4.out
                    go_wp2
                    go_region
                    have f6:=HF5.out.drew
                    have G6:=HG5.out.grown ((Below.refl W.heap.size W).drew)
                    have xB:=xA.drew
                    have dM:=dN.drew
                    clear HF5 HG5 xA dN x0 x3 x4 x5 x6 d0 d2 wc oc
                    generalize W.drew = W at f6 G6 xB dM ⊢
                    have xA:=xB
                    have dN:=dM
                    have HF5 : Hid (Hut w W L E 1 6 8 40 s' σ' q' nx' gen' ls'):=f6
                    have HG5 : Hid (Grid w W L E rs D b1 c1 b2 c2 b3 c3):=G6
                    clear f6 G6 xB dM
                    have x0:=xA.at0 0 rfl
                    have x3:=xA.at0 3 rfl
                    have x4:=xA.at0 4 rfl
                    have x5:=xA.at0 5 rfl
                    have x6:=xA.at0 6 rfl
                    have d0:=dN.at0 0 rfl
                    have d2:=dN.at0 2 rfl
                    go_wp2
                    go_roundw
                    case rel=>exact ⟨j + 1,s',σ',q',nx',gen',ls',rs,D,b1,c1,b2,c2,b3,c3,rfl,rfl,rfl,by go_num,by omega,by have:=HS1.out;have:=HSG.out;omega,HF5.out,HG5.out,HSH1.out⟩
                    case measure=>simp [intOf];omega
               · obtain ⟨rfl,rfl,rfl,rfl,rfl,rfl,rfl⟩:=HSH.out.idx HTM.out (by decide) HRO.out HLV.out HHH.out HOWN.out k3 (fun h=>hix h.1) HO.out
                 have HSH1 : Hid (Shelf 6 (j + 1) q' gen' ls' rs D):=HSH.out.keep (fun _ _ _ _=>rfl)
                 have i0 : decide (ix < 0) = true:=decide_eq_true (by omega)
                 clear hix HO hk2 k3
                 as_aux_lemma =>
                  go_wp2_with (first
                   | (go_at_call 11;refine (ycut _).mono ?_;rintro e w3 ⟨rfl,g3⟩;have f3:=HF.out.grown g3;have G3:=HG.out.grown g3;have hm1:=(fun O=>alloc_cell (G3.r1.cell (i:=K) (x:=.int .u64 H1) HRK1.out) O);have e0:=(fun O=>alloc_cell f3.v.c0 O);have e1:=(fun O=>alloc_cell f3.v.c1 O);have e2:=(fun O=>alloc_cell f3.v.c2 O);have e3:=(fun O=>alloc_cell f3.v.c3 O);have e4:=(fun O=>alloc_cell f3.v.c4 O);have e5:=(fun O=>alloc_cell f3.v.c5 O);have e6:=(fun O=>alloc_cell f3.v.c6 O);have e7:=(fun O=>alloc_cell f3.v.c7 O);have e8:=(fun O=>alloc_cell f3.v.c8 O))
                   | (go_at_call 12;refine (hdo _ (f3.alloc (.cells #[.int .i64 kx,.int .i64 sx,.int .u64 H1,.int .i64 ix,.int .i64 vx,.int .i64 ox,.bool ownx] 36))).mono ?_;rintro e w5 ⟨St,s',σ',rfl,hs1,-,-,-,f5',o5⟩;clear hm1 e0 e1 e2 e3 e4 e5 e6 e7 e8 hdo;have GB5:=grow1 w5 (.cells #[.int .i64 4,.int .u64 0,.int .i64 0,.int .i64 St] 40);have f5:=f5'.grown GB5;have G5:=((G3.grown (grow1 w3 (.cells #[.int .i64 kx,.int .i64 sx,.int .u64 H1,.int .i64 ix,.int .i64 vx,.int .i64 ox,.bool ownx] 36))).mem o5).grown GB5;have xA:=((At.new w3 36 [.int .i64 kx,.int .i64 sx,.int .u64 H1,.int .i64 ix,.int .i64 vx,.int .i64 ox,.bool ownx]).only o5 f3.ltL).grown GB5;have dN:=At.new w5 40 [.int .i64 4,.int .u64 0,.int .i64 0,.int .i64 St];have hXD : w3.heap.size < w5.heap.size:=((At.new w3 36 [.int .i64 kx,.int .i64 sx,.int .u64 H1,.int .i64 ix,.int .i64 vx,.int .i64 ox,.bool ownx]).only o5 f3.ltL).lt;have hXG:=(fun b hb=>(G3.lt (b:=b) hb));have hDG:=(fun b hb=>((G3.grown (grow1 w3 (.cells #[.int .i64 kx,.int .i64 sx,.int .u64 H1,.int .i64 ix,.int .i64 vx,.int .i64 ox,.bool ownx] 36))).mem o5).lt (b:=b) hb);have x0:=xA.at0 0 rfl;have x1:=xA.at0 1 rfl;have x3:=xA.at0 3 rfl;have x4:=xA.at0 4 rfl;have x5:=xA.at0 5 rfl;have x6:=xA.at0 6 rfl;have d0:=dN.at0 0 rfl;have d1:=dN.at0 1 rfl;have d2:=dN.at0 2 rfl)
                   | (go_at_call 13;refine (lc _).mono ?_;rintro e w6 ⟨rfl,rfl⟩))
                  have HS1 : Hid (σ' <= σ + 500):=hs1
                  obtain ⟨Xb,hXb⟩ : ∃ X,w3.heap.size = X:=⟨_,rfl⟩
                  obtain ⟨Db,hDb⟩ : ∃ X,w5.heap.size = X:=⟨_,rfl⟩
                  have HXG : Hid (∀ b,Gh rs b1 b2 b3 b -> b < Xb):=by rw [<- hXb];exact hXG
                  have HDG : Hid (∀ b,Gh rs b1 b2 b3 b -> b < Db):=by rw [<- hDb];exact hDG
                  rw [hXb] at xA hXD ⊢
                  rw [hDb] at dN hXD ⊢
                  have HXD : Hid (Xb < Db):=hXD
                  refine wp_over (fun W=>Hut w W L E 1 6 8 40 s' σ' q' nx' gen' ls' /\ Grid w W L E rs D b1 c1 b2 c2 b3 c3 /\ At W Xb 0 36 _ [.int .i64 kx,.int .i64 sx,.int .u64 H1,.int .i64 ix,.int .i64 vx,.int .i64 ox,.bool ownx] /\ At W Db 0 40 _ [.int .i64 4,.int .u64 0,.int .i64 0,.int .i64 St]) ⟨f5,G5,xA,dN⟩ ?_
                  clear f3 G3 f5' f5 G5 xA dN hXb hDb hXD hXG hDG o5 HF HG x0 x1 x3 x4 x5 x6 d0 d1 d2
                  rintro W ⟨f5,G5,xA,dN⟩
                  have HF5 : Hid (Hut w W L E 1 6 8 40 s' σ' q' nx' gen' ls'):=f5
                  have HG5 : Hid (Grid w W L E rs D b1 c1 b2 c2 b3 c3):=G5
                  clear hs1
                  have x0:=xA.at0 0 rfl
                  have x1:=xA.at0 1 rfl
                  have x3:=xA.at0 3 rfl
                  have x4:=xA.at0 4 rfl
                  have x5:=xA.at0 5 rfl
                  have x6:=xA.at0 6 rfl
                  have d0:=dN.at0 0 rfl
                  have d1:=dN.at0 1 rfl
                  have d2:=dN.at0 2 rfl
                  clear f5 G5 x1 d1
                  have wc : W.cell? ⟨b2,K,none⟩ = some (.slice (some ⟨ρ.b,0,none⟩) ρ.Z ρ.Z):=HG5.out.r2.cell (i:=K) HRK2.out
                  have oc : W.cell? ⟨b3,K,none⟩ = some (.bool ownx):=HG5.out.r3.cell (i:=K) HRK4.out
                  go_region
                  have f6:=HF5.out.drew
                  have G6:=HG5.out.grown ((Below.refl W.heap.size W).drew)
                  have xB:=xA.drew
                  have dM:=dN.drew
                  clear HF5 HG5 xA dN x0 x3 x4 x5 x6 d0 d2 wc oc
                  generalize W.drew = W at f6 G6 xB dM ⊢
                  have xA:=xB
                  have dN:=dM
                  have HF5 : Hid (Hut w W L E 1 6 8 40 s' σ' q' nx' gen' ls'):=f6
                  have HG5 : Hid (Grid w W L E rs D b1 c1 b2 c2 b3 c3):=G6
                  clear f6 G6 xB dM
                  have x0:=xA.at0 0 rfl
                  have x3:=xA.at0 3 rfl
                  have x4:=xA.at0 4 rfl
                  have x5:=xA.at0 5 rfl
                  have x6:=xA.at0 6 rfl
                  have d0:=dN.at0 0 rfl
                  have d2:=dN.at0 2 rfl
                  have wc : W.cell? ⟨b2,K,none⟩ = some (.slice (some ⟨ρ.b,0,none⟩) ρ.Z ρ.Z):=HG5.out.r2.cell (i:=K) HRK2.out
                  have oc : W.cell? ⟨b3,K,none⟩ = some (.bool ownx):=HG5.out.r3.cell (i:=K) HRK4.out
                  go_wp2
                  go_region
                  have f6:=HF5.out.drew
                  have G6:=HG5.out.grown ((Below.refl W.heap.size W).drew)
                  have xB:=xA.drew
                  have dM:=dN.drew
                  clear HF5 HG5 xA dN x0 x3 x4 x5 x6 d0 d2 wc oc
                  generalize W.drew = W at f6 G6 xB dM ⊢
                  have xA:=xB
                  have dN:=dM
                  have HF5 : Hid (Hut w W L E 1 6 8 40 s' σ' q' nx' gen' ls'):=f6
                  have HG5 : Hid (Grid w W L E rs D b1 c1 b2 c2 b3 c3):=G6
                  clear f6 G6 xB dM
                  have x0:=xA.at0 0 rfl
                  have x3:=xA.at0 3 rfl
                  have x4:=xA.at0 4 rfl
                  have x5:=xA.at0 5 rfl
                  have x6:=xA.at0 6 rfl
                  have d0:=dN.at0 0 rfl
                  have d2:=dN.at0 2 rfl
                  go_wp2
                  go_roundw
                  case rel=>exact ⟨j + 1,s',σ',q',nx',gen',ls',rs,D,b1,c1,b2,c2,b3,c3,rfl,rfl,rfl,by go_num,by omega,by have:=HS1.out;have:=HSG.out;omega,HF5.out,HG5.out,HSH1.out⟩
                  case measure=>simp [intOf];omega
           · obtain ⟨rfl,rfl,rfl,rfl,rfl,rfl,rfl⟩:=HSH.out.none HTM.out (by decide) (Or.inr ⟨K,ρ,HRO.out,HHH.out,Or.inr how⟩) HK1.out HO.out
             have HSH1 : Hid (Shelf 6 (j + 1) q' gen' ls' rs D):=HSH.out.keep (fun _ _ _ _=>rfl)
             have ow1 : (!(ρ.own == ownx)) = true:=by show (ρ.own != ownx) = true;rw [bne_iff_ne];exact how
             clear HSH HO how
             as_aux_lemma =>
              go_wp2_with (first
               | (go_at_call 11;refine (ycut _).mono ?_;rintro e w3 ⟨rfl,g3⟩;have f3:=HF.out.grown g3;have G3:=HG.out.grown g3;have hm1:=(fun O=>alloc_cell (G3.r1.cell (i:=K) (x:=.int .u64 H1) HRK1.out) O);have e0:=(fun O=>alloc_cell f3.v.c0 O);have e1:=(fun O=>alloc_cell f3.v.c1 O);have e2:=(fun O=>alloc_cell f3.v.c2 O);have e3:=(fun O=>alloc_cell f3.v.c3 O);have e4:=(fun O=>alloc_cell f3.v.c4 O);have e5:=(fun O=>alloc_cell f3.v.c5 O);have e6:=(fun O=>alloc_cell f3.v.c6 O);have e7:=(fun O=>alloc_cell f3.v.c7 O);have e8:=(fun O=>alloc_cell f3.v.c8 O))
               | (go_at_call 12;refine (hdo _ (f3.alloc (.cells #[.int .i64 kx,.int .i64 sx,.int .u64 H1,.int .i64 ix,.int .i64 vx,.int .i64 ox,.bool ownx] 36))).mono ?_;rintro e w5 ⟨St,s',σ',rfl,hs1,-,-,-,f5',o5⟩;clear hm1 e0 e1 e2 e3 e4 e5 e6 e7 e8 hdo;have GB5:=grow1 w5 (.cells #[.int .i64 3,.int .u64 0,.int .i64 0,.int .i64 St] 40);have f5:=f5'.grown GB5;have G5:=((G3.grown (grow1 w3 (.cells #[.int .i64 kx,.int .i64 sx,.int .u64 H1,.int .i64 ix,.int .i64 vx,.int .i64 ox,.bool ownx] 36))).mem o5).grown GB5;have xA:=((At.new w3 36 [.int .i64 kx,.int .i64 sx,.int .u64 H1,.int .i64 ix,.int .i64 vx,.int .i64 ox,.bool ownx]).only o5 f3.ltL).grown GB5;have dN:=At.new w5 40 [.int .i64 3,.int .u64 0,.int .i64 0,.int .i64 St];have hXD : w3.heap.size < w5.heap.size:=((At.new w3 36 [.int .i64 kx,.int .i64 sx,.int .u64 H1,.int .i64 ix,.int .i64 vx,.int .i64 ox,.bool ownx]).only o5 f3.ltL).lt;have hXG:=(fun b hb=>(G3.lt (b:=b) hb));have hDG:=(fun b hb=>((G3.grown (grow1 w3 (.cells #[.int .i64 kx,.int .i64 sx,.int .u64 H1,.int .i64 ix,.int .i64 vx,.int .i64 ox,.bool ownx] 36))).mem o5).lt (b:=b) hb);have x0:=xA.at0 0 rfl;have x1:=xA.at0 1 rfl;have x3:=xA.at0 3 rfl;have x4:=xA.at0 4 rfl;have x5:=xA.at0 5 rfl;have x6:=xA.at0 6 rfl;have d0:=dN.at0 0 rfl;have d1:=dN.at0 1 rfl;have d2:=dN.at0 2 rfl)
               | (go_at_call 13;refine (lc _).mono ?_;rintro e w6 ⟨rfl,rfl⟩))
              have HS1 : Hid (σ' <= σ + 500):=hs1
              obtain ⟨Xb,hXb⟩ : ∃ X,w3.heap.size = X:=⟨_,rfl⟩
              obtain ⟨Db,hDb⟩ : ∃ X,w5.heap.size = X:=⟨_,rfl⟩
              have HXG : Hid (∀ b,Gh rs b1 b2 b3 b -> b < Xb):=by rw [<- hXb];exact hXG
              have HDG : Hid (∀ b,Gh rs b1 b2 b3 b -> b < Db):=by rw [<- hDb];exact hDG
              rw [hXb] at xA hXD ⊢
              rw [hDb] at dN hXD ⊢
              have HXD : Hid (Xb < Db):=hXD
              refine wp_over (fun W=>Hut w W L E 1 6 8 40 s' σ' q' nx' gen' ls' /\ Grid w W L E rs D b1 c1 b2 c2 b3 c3 /\ At W Xb 0 36 _ [.int .i64 kx,.int .i64 sx,.int .u64 H1,.int .i64 ix,.int .i64 vx,.int .i64 ox,.bool ownx] /\ At W Db 0 40 _ [.int .i64 3,.int .u64 0,.int .i64 0,.int .i64 St]) ⟨f5,G5,xA,dN⟩ ?_
              clear f3 G3 f5' f5 G5 xA dN hXb hDb hXD hXG hDG o5 HF HG x0 x1 x3 x4 x5 x6 d0 d1 d2
              rintro W ⟨f5,G5,xA,dN⟩
              have HF5 : Hid (Hut w W L E 1 6 8 40 s' σ' q' nx' gen' ls'):=f5
              have HG5 : Hid (Grid w W L E rs D b1 c1 b2 c2 b3 c3):=G5
              clear hs1
              have x0:=xA.at0 0 rfl
              have x1:=xA.at0 1 rfl
              have x3:=xA.at0 3 rfl
              have x4:=xA.at0 4 rfl
              have x5:=xA.at0 5 rfl
              have x6:=xA.at0 6 rfl
              have d0:=dN.at0 0 rfl
              have d1:=dN.at0 1 rfl
              have d2:=dN.at0 2 rfl
              clear f5 G5 x1 d1
              have wc : W.cell? ⟨b2,K,none⟩ = some (.slice (some ⟨ρ.b,0,none⟩) ρ.Z ρ.Z):=HG5.out.r2.cell (i:=K) HRK2.out
              have oc : W.cell? ⟨b3,K,none⟩ = some (.bool ρ.own):=HG5.out.r3.cell (i:=K) HRK3.out
              go_region
              have f6:=HF5.out.drew
              have G6:=HG5.out.grown ((Below.refl W.heap.size W).drew)
              have xB:=xA.drew
              have dM:=dN.drew
              clear HF5 HG5 xA dN x0 x3 x4 x5 x6 d0 d2 wc oc
              generalize W.drew = W at f6 G6 xB dM ⊢
              have xA:=xB
              have dN:=dM
              have HF5 : Hid (Hut w W L E 1 6 8 40 s' σ' q' nx' gen' ls'):=f6
              have HG5 : Hid (Grid w W L E rs D b1 c1 b2 c2 b3 c3):=G6
              clear f6 G6 xB dM
              have x0:=xA.at0 0 rfl
              have x3:=xA.at0 3 rfl
              have x4:=xA.at0 4 rfl
              have x5:=xA.at0 5 rfl
              have x6:=xA.at0 6 rfl
              have d0:=dN.at0 0 rfl
              have d2:=dN.at0 2 rfl
              go_wp2
              go_roundw
              case rel=>exact ⟨j + 1,s',σ',q',nx',gen',ls',rs,D,b1,c1,b2,c2,b3,c3,rfl,rfl,rfl,by go_num,by omega,by have:=HS1.out;have:=HSG.out;omega,HF5.out,HG5.out,HSH1.out⟩
              case measure=>simp [intOf];omega
    · have hj8' : ¬ (j : Int) < 80:=by omega
      have hjn' : (j : Int) < (n : Int):=by omega
      go_wp2
      go_ret
      exact ⟨rfl,f.b⟩
  · have hjn' : ¬ (j : Int) < (n : Int):=by omega
    go_wp2
    go_ret
    exact ⟨rfl,f.b⟩
end Go.Proofs.YtlolfmoolgenpaaGreat
