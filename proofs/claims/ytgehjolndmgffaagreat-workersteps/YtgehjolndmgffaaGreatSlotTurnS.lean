import Derived.Test.YtgehjolndmgffaaGreatSlotStepS
namespace Go.Proofs.YtgehjolndmgffaaGreat
open Go.RowKit
inductive Tk where
 | idle
 | Vh (h c:Nat)
 | TJ (h c q:Nat)
 | XN (h:Nat)
 | none
def Tk.over:Tk->Bool
 | .XN _=>true
 | .none=>true
 | _=>false
def Tk.cells:Tk->List Value->Prop
 | .idle,l=>∃ tp sl bh,l=Ul 0 tp sl bh
 | .Vh h c,l=>∃ bh,l=Ul 1 (ZC (h+1) c) h bh
 | .TJ h c q,l=>l=Ul 2 (ZC (h+1) c) h ((q:Int) - 1)
 | .XN h,l=>∃ tp bh,l=Ul 3 tp h bh
 | .none,l=>∃ tp sl bh,l=Ul 4 tp sl bh
def Tk.good (n c:Nat) (lk:Nat->Nat) (F:List Nat):Tk->Prop
 | .idle=>True
 | .Vh h c'=>h<n/\c'<=c/\(c'=c->hd F=h+1)
 | .TJ h c' q=>h<n/\q<=n/\c'<=c/\(c'=c->hd F=h+1/\q=lk h)
 | .XN h=>h<n
 | .none=>True
inductive Ve (n c:Nat) (lk:Nat->Nat):List Nat->Tk->Nat->List Nat->Tk->Prop where
 | none:Ve n c lk [] .idle c [] .none
 | Vh (x:Nat) (F:List Nat) (hx:x<n):Ve n c lk (x :: F) .idle c (x :: F) (.Vh x c)
 | link (F:List Nat) (h c':Nat):Ve n c lk F (.Vh h c') c F (.TJ h c' (lk h))
 | took (x:Nat) (F:List Nat) (hx:x<n):Ve n c lk (x :: F) (.TJ x c (lk x)) (c+1) F (.XN x)
 | FP (F:List Nat) (h c' q:Nat) (hc:c'<c):Ve n c lk F (.TJ h c' q) c F .idle
def FO (w:World) (b o:Nat) (T:TypeId) (c:Array Value) (τ:Tk):Prop:=∃ l,At w b o T c l/\τ.cells l
inductive Gv where
 | idle
 | Vh (h c:Nat)
 | TJ (h c:Nat)
 | over
def Gv.cells (x:Nat):Gv->List Value->Prop
 | .idle,l=>∃ tp,l=U1 0 x tp
 | .Vh h c,l=>l=U1 1 x (ZC h c)
 | .TJ h c,l=>l=U1 2 x (ZC h c)
 | .over,l=>∃ tp,l=U1 3 x tp
def Gv.good (n c:Nat) (lk:Nat->Nat) (F:List Nat) (x:Nat):Gv->Prop
 | .idle=>True
 | .Vh h c'=>h<=n/\c'<=c/\(c'=c->hd F=h)
 | .TJ h c'=>h<=n/\lk x=h/\c'<=c/\(c'=c->hd F=h)
 | .over=>True
inductive Ud (n c:Nat) (x:Nat):(Nat->Nat)->List Nat->Gv->Nat->(Nat->Nat)->List Nat->Gv->Prop where
 | load (lk:Nat->Nat) (F:List Nat):Ud n c x lk F .idle c lk F (.Vh (hd F) c)
 | lay (lk:Nat->Nat) (F:List Nat) (h c':Nat):Ud n c x lk F (.Vh h c') c (upd lk x h) F (.TJ h c')
 | gave (lk:Nat->Nat) (F:List Nat):Ud n c x lk F (.TJ (hd F) c) (c+1) lk (x :: F) .over
 | FP (lk:Nat->Nat) (F:List Nat) (h c':Nat) (hc:c'<c):Ud n c x lk F (.TJ h c') c lk F .idle
def Gv.done:Gv->Bool
 | .over=>true
 | _=>false
def zB (w:World) (b o:Nat) (T:TypeId) (c:Array Value) (x:Nat) (γ:Gv):Prop:=∃ l,At w b o T c l/\γ.cells x l
def Tk.at (t:Nat):Tk->Nat
 | .Vh h _=>6+t+h * 2+1
 | _=>1
def Gv.at (t x:Nat):Gv->Nat
 | .Vh _ _=>6+t+x * 2+1
 | _=>1
section
variable {w:World} {L:Loc} {s:Mm} {b o:Nat} {T:TypeId} {cs:Array Value} {t n σ c:Nat} {lk:Nat->Nat} {F:List Nat}
structure xg (w:World) (L:Loc) (s:Mm) (b o:Nat) (T:TypeId) (cs:Array Value) (t n σ c:Nat) (lk:Nat->Nat) (F:List Nat) (who:Int) (τ:Tk) (w':World) (s':Mm) (cs':Array Value) (c':Nat) (F':List Nat) (τ':Tk):Prop where
 turn:Ve n c lk F τ c' F' τ'
 m:Z8 w' L s'
 p:YH t n s' (σ+1) c' lk F'
 a:FO w' b o T cs' τ'
 same:Same o 4 cs cs'
 only:Only (L.and b) w w'
 good:τ'.good n c' lk F'
 mJ:s'.la=((τ.at t:Nat):Int)
 still:F=[]->τ=.idle->s'.wd=s.wd
 len:s'.n=s.n
 st:∃ v,s'=(s.by who).step (τ.at t) v
theorem IX (h:Z8 w L s) (hb:¬ L.has b) (hp:YH t n s σ c lk F) (hσ:σ<1000000) (SQ:t<=8) (τ:Tk) (hi:FO w b o T cs τ) (hg:τ.good n c lk F) (ho:τ.over=false) (c2 c3 c4 c5 c6 who:Int) :
 Calls Tryz.prog 142 #[pP b o,eV t n c2 c3 c4 c5 c6 L.p who] w fun e w'=>∃ s' cs' c' F' τ',e=.returned (.bool τ'.over)/\xg w L s b o T cs t n σ c lk F who τ w' s' cs' c' F' τ':=by
 have hn:1<s.n:=by have:=hp.len;omega
 have hC:c<=1000000:=by have:=hp.cs;omega
 have hbig:=hp.big
 obtain⟨l,ha,hl⟩:=hi
 cases τ with
 | XN _=>cases ho
 | none=>cases ho
 | idle =>
  obtain⟨tp,sl,bh,rfl⟩:=hl
  cases F with
  | nil =>
   refine(Kt h hb ha _ _ _ _ _ _ _ _ c hn hp.top hC).mono ?_
   rintro e w' ⟨rfl,cs',m,a,sm,on⟩
   exact⟨_,cs',c,[],.none,rfl,.none,m,hp.same hσ who 1,⟨_,a,_,_,_,rfl⟩,sm,on,trivial,rfl,fun _ _=>Vd _ _,rfl,_,rfl⟩
  | cons x F =>
   have hx:=hp.lt x (by simp)
   refine(Ku h hb ha _ _ _ _ _ _ _ _ x c hn hp.top hC (by omega) (by omega)).mono ?_
   rintro e w' ⟨rfl,cs',m,a,sm,on⟩
   exact⟨_,cs',c,x :: F,.Vh x c,rfl,.Vh x F hx,m,hp.same hσ who 1,⟨_,a,_,rfl⟩,sm,on,⟨hx,Nat.le_refl _,fun _=>rfl⟩,rfl,(fun h=>by cases h),rfl,_,rfl⟩
 | Vh x c0 =>
  obtain⟨bh,rfl⟩:=hl
  obtain⟨hx,hc0,hh⟩:=hg
  have hlk:=hp.IK x hx
  refine(Kr h hb ha _ _ _ _ _ _ _ _ (lk x) (6+t+x * 2+1) (by omega) (by omega) (by omega) (by omega) (by have:=hp.len;omega) (hp.yw x hx) (by omega)).mono ?_
  rintro e w' ⟨rfl,cs',m,a,sm,on⟩
  exact⟨_,cs',c,F,.TJ x c0 (lk x),rfl,.link F x c0,m,hp.same hσ who _,⟨_,a,rfl⟩,sm,on,⟨hx,hlk,hc0,fun e=>⟨hh e,rfl⟩⟩,rfl,(fun _ h=>by cases h),rfl,_,rfl⟩
 | TJ x c0 q =>
  have hl':l=Ul 2 (ZC (x+1) c0) x ((q:Int) - 1):=hl
  subst hl'
  obtain⟨hx,hq,hc0,hh⟩:=hg
  have hd1:=hp.zQ
  by_cases hc:c0=c
  . subst hc
    obtain⟨hd2,rfl⟩:=hh rfl
    cases F with
    | nil=>simp[hd] at hd2
    | cons y F =>
     obtain rfl:y=x:=by simpa [hd] using hd2
     refine(QU h hb (y+1) c0 (lk y) ha _ _ _ _ _ _ _ _ hn (by omega) hC (by omega) (Or.inl ⟨hp.top,rfl,rfl,rfl⟩)).mono ?_
     rintro e w' ⟨rfl,cs',m,a,sm,on⟩
     exact⟨_,cs',c0+1,F,.XN y,rfl,.took y F hx,m,hp.pop hσ who,⟨_,a,_,_,rfl⟩,sm,on,hx,rfl,(fun h=>by cases h),rfl,_,rfl⟩
  . have hlt:c0<c:=by omega
    have hne:¬ s.wd 1=ZC (x+1) c0:=fun e=>by
     rw[hp.top] at e
     have:=(Nl (by omega) (by omega) e).2
     omega
    refine(QU h hb (x+1) c0 q ha _ _ _ _ _ _ _ _ hn (by omega) (by omega) (by omega) (Or.inr ⟨hne,rfl,rfl,rfl⟩)).mono ?_
    rintro e w' ⟨rfl,cs',m,a,sm,on⟩
    exact⟨_,cs',c,F,.idle,rfl,.FP F x c0 q hlt,m,hp.same hσ who 1,⟨_,a,_,_,_,rfl⟩,sm,on,trivial,rfl,(fun _ h=>by cases h),rfl,_,rfl⟩
structure CS (w:World) (L:Loc) (s:Mm) (b o:Nat) (T:TypeId) (cs:Array Value) (t n σ c:Nat) (lk:Nat->Nat) (F:List Nat) (x:Nat) (who:Int) (γ:Gv) (w':World) (s':Mm) (cs':Array Value) (c':Nat) (lk':Nat->Nat) (F':List Nat) (γ':Gv):Prop where
 turn:Ud n c x lk F γ c' lk' F' γ'
 m:Z8 w' L s'
 p:YH t n s' (σ+1) c' lk' F'
 a:zB w' b o T cs' x γ'
 same:Same o 3 cs cs'
 only:Only (L.and b) w w'
 good:γ'.good n c' lk' F' x
 len:s'.n=s.n
 st:∃ v,s'=(s.by who).step (γ.at t x) v
theorem IW (h:Z8 w L s) (hb:¬ L.has b) (hp:YH t n s σ c lk F) (hσ:σ<1000000) (SQ:t<=8) {x:Nat} (hx:x<n) (hF:x∉F) (γ:Gv) (hi:zB w b o T cs x γ) (hg:γ.good n c lk F x) (ho:γ.done=false) (c2 c3 c4 c5 c6 who:Int) :
 Calls Tryz.prog 154 #[pP b o,eV t n c2 c3 c4 c5 c6 L.p who] w fun e w'=>∃ s' cs' c' lk' F' γ',e=.returned (.bool γ'.done)/\CS w L s b o T cs t n σ c lk F x who γ w' s' cs' c' lk' F' γ':=by
 have hn:1<s.n:=by have:=hp.len;omega
 have hC:c<=1000000:=by have:=hp.cs;omega
 have hbig:=hp.big
 have hd1:=hp.zQ
 obtain⟨l,ha,hl⟩:=hi
 cases γ with
 | over=>cases ho
 | idle =>
  obtain⟨tp,rfl⟩:=hl
  refine(Kq h hb ha _ _ _ _ _ _ _ _ (hd F) c hn (by omega) hp.top).mono ?_
  rintro e w' ⟨rfl,cs',m,a,sm,on⟩
  exact⟨_,cs',c,lk,F,.Vh (hd F) c,rfl,.load lk F,m,hp.same hσ who 1,⟨_,a,rfl⟩,sm,on,⟨hd1,Nat.le_refl _,fun _=>rfl⟩,rfl,_,rfl⟩
 | Vh q c0 =>
  have hl':l=U1 1 x (ZC q c0):=hl
  subst hl'
  obtain⟨hq,hc0,hh⟩:=hg
  refine(GM h hb q c0 (6+t+x * 2+1) ha _ _ _ _ _ _ _ _ (by omega) (by omega) (by omega) (by omega) (by have:=hp.len;omega) (by omega) (by omega) (by omega)).mono ?_
  rintro e w' ⟨rfl,cs',m,a,sm,on⟩
  exact⟨_,cs',c,upd lk x q,F,.TJ q c0,rfl,.lay lk F q c0,m,hp.lay hσ who hx hF q hq,⟨_,a,rfl⟩,sm,on,⟨hq,upd_same _ _ _,hc0,hh⟩,rfl,_,rfl⟩
 | TJ q c0 =>
  have hl':l=U1 2 x (ZC q c0):=hl
  subst hl'
  obtain⟨hq,hlk,hc0,hh⟩:=hg
  by_cases hc:c0=c
  . subst hc
    have hd2:=hh rfl
    subst hd2
    refine(QT h hb (hd F) c0 ha _ _ _ _ _ _ _ _ hn (by omega) (by omega) (by omega) hC (Or.inl ⟨hp.top,rfl,rfl,rfl⟩)).mono ?_
    rintro e w' ⟨rfl,cs',m,a,sm,on⟩
    exact⟨_,cs',c0+1,lk,x :: F,.over,rfl,.gave lk F,m,hp.push hσ who hx hF hlk,⟨_,a,_,rfl⟩,sm,on,trivial,rfl,_,rfl⟩
  . have hlt:c0<c:=by omega
    have hne:¬ s.wd 1=ZC q c0:=fun e=>by
     rw[hp.top] at e
     have:=(Nl (by omega) (by omega) e).2
     omega
    refine(QT h hb q c0 ha _ _ _ _ _ _ _ _ hn (by omega) (by omega) (by omega) (by omega) (Or.inr ⟨hne,rfl,rfl,rfl⟩)).mono ?_
    rintro e w' ⟨rfl,cs',m,a,sm,on⟩
    exact⟨_,cs',c,lk,F,.idle,rfl,.FP lk F q c0 hlt,m,hp.same hσ who 1,⟨_,a,_,rfl⟩,sm,on,trivial,rfl,_,rfl⟩
theorem FM {τ:Tk} (hi:FO w b o T cs τ) (x:Nat) (hx:τ=.XN x) :
 Calls Tryz.prog 143 #[pP b o] w fun e w'=>e=.returned (.tuple #[iV x,.bool true])/\w'=w:=by
 subst hx
 obtain⟨l,ha,tp,bh,rfl⟩:=hi
 have k0:=ha.cell0 rfl
 have k2:=ha.cell 2 rfl
 go_enter Tryz.func143,Tryz.ntmps143
 go_wp2
 go_ret2
 exact⟨rfl,rfl⟩
theorem IU {τ:Tk} (hi:FO w b o T cs τ) (hx:τ=.none) :
 Calls Tryz.prog 143 #[pP b o] w fun e w'=>e=.returned (.tuple #[iV 0,.bool false])/\w'=w:=by
 subst hx
 obtain⟨l,ha,tp,sl,bh,rfl⟩:=hi
 have k0:=ha.cell0 rfl
 go_enter Tryz.func143,Tryz.ntmps143
 go_wp2
 go_ret2
 exact⟨rfl,rfl⟩
theorem TI (x:Nat) (w:World) :
 Calls Tryz.prog 149 #[iV x] w fun e w'=>e=.returned (pP w.heap.size 0)/\w'=w.alloc (.cells #[iV 0,iV x,.int .u64 0] 155):=by
 go_enter Tryz.func149,Tryz.ntmps149
 go_wp2
 go_ret
 exact⟨rfl,rfl⟩
end
end Go.Proofs.YtgehjolndmgffaaGreat
