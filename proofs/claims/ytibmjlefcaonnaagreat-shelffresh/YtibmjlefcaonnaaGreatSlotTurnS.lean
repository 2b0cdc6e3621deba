import Derived.Test.YtibmjlefcaonnaaGreatSlotStepS
namespace Go.Proofs.YtibmjlefcaonnaaGreat
open Go.RowKit
inductive Tk where
 | idle
 | Wp (h c:Nat)
 | Vr (h c q:Nat)
 | Yp (h:Nat)
 | none
def Tk.over:Tk->Bool
 | .Yp _=>true
 | .none=>true
 | _=>false
def Tk.cells:Tk->List Value->Prop
 | .idle,l=>∃ tp sl bh,l=VV 0 tp sl bh
 | .Wp h c,l=>∃ bh,l=VV 1 (ZK (h+1) c) h bh
 | .Vr h c q,l=>l=VV 2 (ZK (h+1) c) h ((q:Int) - 1)
 | .Yp h,l=>∃ tp bh,l=VV 3 tp h bh
 | .none,l=>∃ tp sl bh,l=VV 4 tp sl bh
def Tk.good (n c:Nat) (lk:Nat->Nat) (F:List Nat):Tk->Prop
 | .idle=>True
 | .Wp h c'=>h<n/\c'<=c/\(c'=c->hd F=h+1)
 | .Vr h c' q=>h<n/\q<=n/\c'<=c/\(c'=c->hd F=h+1/\q=lk h)
 | .Yp h=>h<n
 | .none=>True
inductive WI (n c:Nat) (lk:Nat->Nat):List Nat->Tk->Nat->List Nat->Tk->Prop where
 | none:WI n c lk [] .idle c [] .none
 | Wp (x:Nat) (F:List Nat) (hx:x<n):WI n c lk (x :: F) .idle c (x :: F) (.Wp x c)
 | link (F:List Nat) (h c':Nat):WI n c lk F (.Wp h c') c F (.Vr h c' (lk h))
 | took (x:Nat) (F:List Nat) (hx:x<n):WI n c lk (x :: F) (.Vr x c (lk x)) (c+1) F (.Yp x)
 | NZ (F:List Nat) (h c' q:Nat) (hc:c'<c):WI n c lk F (.Vr h c' q) c F .idle
def NY (w:World) (b o:Nat) (T:TypeId) (c:Array Value) (τ:Tk):Prop:=∃ l,At w b o T c l/\τ.cells l
inductive Gv where
 | idle
 | Wp (h c:Nat)
 | Vr (h c:Nat)
 | over
def Gv.cells (x:Nat):Gv->List Value->Prop
 | .idle,l=>∃ tp,l=Wx 0 x tp
 | .Wp h c,l=>l=Wx 1 x (ZK h c)
 | .Vr h c,l=>l=Wx 2 x (ZK h c)
 | .over,l=>∃ tp,l=Wx 3 x tp
def Gv.good (n c:Nat) (lk:Nat->Nat) (F:List Nat) (x:Nat):Gv->Prop
 | .idle=>True
 | .Wp h c'=>h<=n/\c'<=c/\(c'=c->hd F=h)
 | .Vr h c'=>h<=n/\lk x=h/\c'<=c/\(c'=c->hd F=h)
 | .over=>True
inductive VR (n c:Nat) (x:Nat):(Nat->Nat)->List Nat->Gv->Nat->(Nat->Nat)->List Nat->Gv->Prop where
 | load (lk:Nat->Nat) (F:List Nat):VR n c x lk F .idle c lk F (.Wp (hd F) c)
 | lay (lk:Nat->Nat) (F:List Nat) (h c':Nat):VR n c x lk F (.Wp h c') c (upd lk x h) F (.Vr h c')
 | gave (lk:Nat->Nat) (F:List Nat):VR n c x lk F (.Vr (hd F) c) (c+1) lk (x :: F) .over
 | NZ (lk:Nat->Nat) (F:List Nat) (h c':Nat) (hc:c'<c):VR n c x lk F (.Vr h c') c lk F .idle
def Gv.done:Gv->Bool
 | .over=>true
 | _=>false
def JS (w:World) (b o:Nat) (T:TypeId) (c:Array Value) (x:Nat) (γ:Gv):Prop:=∃ l,At w b o T c l/\γ.cells x l
def Tk.at (t:Nat):Tk->Nat
 | .Wp h _=>6+t+h * 2+1
 | _=>1
def Gv.at (t x:Nat):Gv->Nat
 | .Wp _ _=>6+t+x * 2+1
 | _=>1
section
variable {w:World} {L:Loc} {s:Mm} {b o:Nat} {T:TypeId} {cs:Array Value} {t n σ c:Nat} {lk:Nat->Nat} {F:List Nat}
structure IY (w:World) (L:Loc) (s:Mm) (b o:Nat) (T:TypeId) (cs:Array Value) (t n σ c:Nat) (lk:Nat->Nat) (F:List Nat) (who:Int) (τ:Tk) (w':World) (s':Mm) (cs':Array Value) (c':Nat) (F':List Nat) (τ':Tk):Prop where
 turn:WI n c lk F τ c' F' τ'
 m:Z8 w' L s'
 p:Y2 t n s' (σ+1) c' lk F'
 a:NY w' b o T cs' τ'
 same:Same o 4 cs cs'
 only:Only (L.and b) w w'
 good:τ'.good n c' lk F'
 Ff:s'.la=((τ.at t:Nat):Int)
 still:F=[]->τ=.idle->s'.wd=s.wd
 len:s'.n=s.n
 st:∃ v,s'=(s.by who).step (τ.at t) v
theorem Pv (h:Z8 w L s) (hb:¬ L.has b) (hp:Y2 t n s σ c lk F) (hσ:σ<1000000) (Vs:t<=8) (τ:Tk) (hi:NY w b o T cs τ) (hg:τ.good n c lk F) (ho:τ.over=false) (c2 c3 c4 c5 c6 who:Int) :
 Calls Tryz.prog 117 #[pP b o,eV t n c2 c3 c4 c5 c6 L.p who] w fun e w'=>∃ s' cs' c' F' τ',e=.returned (.bool τ'.over)/\IY w L s b o T cs t n σ c lk F who τ w' s' cs' c' F' τ':=by
 have hn:1<s.n:=by have:=hp.len;omega
 have hC:c<=1000000:=by have:=hp.cs;omega
 have hbig:=hp.big
 obtain⟨l,ha,hl⟩:=hi
 cases τ with
 | Yp _=>cases ho
 | none=>cases ho
 | idle =>
  obtain⟨tp,sl,bh,rfl⟩:=hl
  cases F with
  | nil =>
   refine(Qy h hb ha _ _ _ _ _ _ _ _ c hn hp.top hC).mono ?_
   rintro e w' ⟨rfl,cs',m,a,sm,on⟩
   exact⟨_,cs',c,[],.none,rfl,.none,m,hp.same hσ who 1,⟨_,a,_,_,_,rfl⟩,sm,on,trivial,rfl,fun _ _=>WH _ _,rfl,_,rfl⟩
  | cons x F =>
   have hx:=hp.lt x (by simp)
   refine(Qz h hb ha _ _ _ _ _ _ _ _ x c hn hp.top hC (by omega) (by omega)).mono ?_
   rintro e w' ⟨rfl,cs',m,a,sm,on⟩
   exact⟨_,cs',c,x :: F,.Wp x c,rfl,.Wp x F hx,m,hp.same hσ who 1,⟨_,a,_,rfl⟩,sm,on,⟨hx,Nat.le_refl _,fun _=>rfl⟩,rfl,(fun h=>by cases h),rfl,_,rfl⟩
 | Wp x c0 =>
  obtain⟨bh,rfl⟩:=hl
  obtain⟨hx,hc0,hh⟩:=hg
  have hlk:=hp.O9 x hx
  refine(Qx h hb ha _ _ _ _ _ _ _ _ (lk x) (6+t+x * 2+1) (by omega) (by omega) (by omega) (by omega) (by have:=hp.len;omega) (hp.Jz x hx) (by omega)).mono ?_
  rintro e w' ⟨rfl,cs',m,a,sm,on⟩
  exact⟨_,cs',c,F,.Vr x c0 (lk x),rfl,.link F x c0,m,hp.same hσ who _,⟨_,a,rfl⟩,sm,on,⟨hx,hlk,hc0,fun e=>⟨hh e,rfl⟩⟩,rfl,(fun _ h=>by cases h),rfl,_,rfl⟩
 | Vr x c0 q =>
  have hl':l=VV 2 (ZK (x+1) c0) x ((q:Int) - 1):=hl
  subst hl'
  obtain⟨hx,hq,hc0,hh⟩:=hg
  have hd1:=hp.Iz
  by_cases hc:c0=c
  . subst hc
    obtain⟨hd2,rfl⟩:=hh rfl
    cases F with
    | nil=>simp[hd] at hd2
    | cons y F =>
     obtain rfl:y=x:=by simpa [hd] using hd2
     refine(UH h hb (y+1) c0 (lk y) ha _ _ _ _ _ _ _ _ hn (by omega) hC (by omega) (Or.inl ⟨hp.top,rfl,rfl,rfl⟩)).mono ?_
     rintro e w' ⟨rfl,cs',m,a,sm,on⟩
     exact⟨_,cs',c0+1,F,.Yp y,rfl,.took y F hx,m,hp.pop hσ who,⟨_,a,_,_,rfl⟩,sm,on,hx,rfl,(fun h=>by cases h),rfl,_,rfl⟩
  . have hlt:c0<c:=by omega
    have hne:¬ s.wd 1=ZK (x+1) c0:=fun e=>by
     rw[hp.top] at e
     have:=(Ry (by omega) (by omega) e).2
     omega
    refine(UH h hb (x+1) c0 q ha _ _ _ _ _ _ _ _ hn (by omega) (by omega) (by omega) (Or.inr ⟨hne,rfl,rfl,rfl⟩)).mono ?_
    rintro e w' ⟨rfl,cs',m,a,sm,on⟩
    exact⟨_,cs',c,F,.idle,rfl,.NZ F x c0 q hlt,m,hp.same hσ who 1,⟨_,a,_,_,_,rfl⟩,sm,on,trivial,rfl,(fun _ h=>by cases h),rfl,_,rfl⟩
structure LH (w:World) (L:Loc) (s:Mm) (b o:Nat) (T:TypeId) (cs:Array Value) (t n σ c:Nat) (lk:Nat->Nat) (F:List Nat) (x:Nat) (who:Int) (γ:Gv) (w':World) (s':Mm) (cs':Array Value) (c':Nat) (lk':Nat->Nat) (F':List Nat) (γ':Gv):Prop where
 turn:VR n c x lk F γ c' lk' F' γ'
 m:Z8 w' L s'
 p:Y2 t n s' (σ+1) c' lk' F'
 a:JS w' b o T cs' x γ'
 same:Same o 3 cs cs'
 only:Only (L.and b) w w'
 good:γ'.good n c' lk' F' x
 len:s'.n=s.n
 st:∃ v,s'=(s.by who).step (γ.at t x) v
theorem Pq (h:Z8 w L s) (hb:¬ L.has b) (hp:Y2 t n s σ c lk F) (hσ:σ<1000000) (Vs:t<=8) {x:Nat} (hx:x<n) (hF:x∉F) (γ:Gv) (hi:JS w b o T cs x γ) (hg:γ.good n c lk F x) (ho:γ.done=false) (c2 c3 c4 c5 c6 who:Int) :
 Calls Tryz.prog 130 #[pP b o,eV t n c2 c3 c4 c5 c6 L.p who] w fun e w'=>∃ s' cs' c' lk' F' γ',e=.returned (.bool γ'.done)/\LH w L s b o T cs t n σ c lk F x who γ w' s' cs' c' lk' F' γ':=by
 have hn:1<s.n:=by have:=hp.len;omega
 have hC:c<=1000000:=by have:=hp.cs;omega
 have hbig:=hp.big
 have hd1:=hp.Iz
 obtain⟨l,ha,hl⟩:=hi
 cases γ with
 | over=>cases ho
 | idle =>
  obtain⟨tp,rfl⟩:=hl
  refine(Qw h hb ha _ _ _ _ _ _ _ _ (hd F) c hn (by omega) hp.top).mono ?_
  rintro e w' ⟨rfl,cs',m,a,sm,on⟩
  exact⟨_,cs',c,lk,F,.Wp (hd F) c,rfl,.load lk F,m,hp.same hσ who 1,⟨_,a,rfl⟩,sm,on,⟨hd1,Nat.le_refl _,fun _=>rfl⟩,rfl,_,rfl⟩
 | Wp q c0 =>
  have hl':l=Wx 1 x (ZK q c0):=hl
  subst hl'
  obtain⟨hq,hc0,hh⟩:=hg
  refine(Oy h hb q c0 (6+t+x * 2+1) ha _ _ _ _ _ _ _ _ (by omega) (by omega) (by omega) (by omega) (by have:=hp.len;omega) (by omega) (by omega) (by omega)).mono ?_
  rintro e w' ⟨rfl,cs',m,a,sm,on⟩
  exact⟨_,cs',c,upd lk x q,F,.Vr q c0,rfl,.lay lk F q c0,m,hp.lay hσ who hx hF q hq,⟨_,a,rfl⟩,sm,on,⟨hq,upd_same _ _ _,hc0,hh⟩,rfl,_,rfl⟩
 | Vr q c0 =>
  have hl':l=Wx 2 x (ZK q c0):=hl
  subst hl'
  obtain⟨hq,hlk,hc0,hh⟩:=hg
  by_cases hc:c0=c
  . subst hc
    have hd2:=hh rfl
    subst hd2
    refine(UG h hb (hd F) c0 ha _ _ _ _ _ _ _ _ hn (by omega) (by omega) (by omega) hC (Or.inl ⟨hp.top,rfl,rfl,rfl⟩)).mono ?_
    rintro e w' ⟨rfl,cs',m,a,sm,on⟩
    exact⟨_,cs',c0+1,lk,x :: F,.over,rfl,.gave lk F,m,hp.push hσ who hx hF hlk,⟨_,a,_,rfl⟩,sm,on,trivial,rfl,_,rfl⟩
  . have hlt:c0<c:=by omega
    have hne:¬ s.wd 1=ZK q c0:=fun e=>by
     rw[hp.top] at e
     have:=(Ry (by omega) (by omega) e).2
     omega
    refine(UG h hb q c0 ha _ _ _ _ _ _ _ _ hn (by omega) (by omega) (by omega) (by omega) (Or.inr ⟨hne,rfl,rfl,rfl⟩)).mono ?_
    rintro e w' ⟨rfl,cs',m,a,sm,on⟩
    exact⟨_,cs',c,lk,F,.idle,rfl,.NZ lk F q c0 hlt,m,hp.same hσ who 1,⟨_,a,_,rfl⟩,sm,on,trivial,rfl,_,rfl⟩
theorem NV {τ:Tk} (hi:NY w b o T cs τ) (x:Nat) (hx:τ=.Yp x) :
 Calls Tryz.prog 118 #[pP b o] w fun e w'=>e=.returned (.tuple #[iV x,.bool true])/\w'=w:=by
 subst hx
 obtain⟨l,ha,tp,bh,rfl⟩:=hi
 have k0:=ha.cell0 rfl
 have k2:=ha.cell 2 rfl
 go_enter Tryz.func118,Tryz.ntmps118
 go_wp2
 go_ret2
 exact⟨rfl,rfl⟩
theorem Pn {τ:Tk} (hi:NY w b o T cs τ) (hx:τ=.none) :
 Calls Tryz.prog 118 #[pP b o] w fun e w'=>e=.returned (.tuple #[iV 0,.bool false])/\w'=w:=by
 subst hx
 obtain⟨l,ha,tp,sl,bh,rfl⟩:=hi
 have k0:=ha.cell0 rfl
 go_enter Tryz.func118,Tryz.ntmps118
 go_wp2
 go_ret2
 exact⟨rfl,rfl⟩
theorem VH (x:Nat) (w:World) :
 Calls Tryz.prog 124 #[iV x] w fun e w'=>e=.returned (pP w.heap.size 0)/\w'=w.alloc (.cells #[iV 0,iV x,.int .u64 0] 135):=by
 go_enter Tryz.func124,Tryz.ntmps124
 go_wp2
 go_ret
 exact⟨rfl,rfl⟩
end
end Go.Proofs.YtibmjlefcaonnaaGreat
