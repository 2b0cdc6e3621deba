import Derived.Test.YtgehjolndmgffaaGreatSlotStepS
namespace Go.Proofs.YtgehjolndmgffaaGreat
open Go.RowKit
inductive Tk where
 | idle
 | Vl (h c:Nat)
 | TL (h c q:Nat)
 | XO (h:Nat)
 | none
def Tk.over:Tk->Bool
 | .XO _=>true
 | .none=>true
 | _=>false
def Tk.cells:Tk->List Value->Prop
 | .idle,l=>∃ tp sl bh,l=Uo 0 tp sl bh
 | .Vl h c,l=>∃ bh,l=Uo 1 (ZC (h+1) c) h bh
 | .TL h c q,l=>l=Uo 2 (ZC (h+1) c) h ((q:Int) - 1)
 | .XO h,l=>∃ tp bh,l=Uo 3 tp h bh
 | .none,l=>∃ tp sl bh,l=Uo 4 tp sl bh
def Tk.good (n c:Nat) (lk:Nat->Nat) (F:List Nat):Tk->Prop
 | .idle=>True
 | .Vl h c'=>h<n/\c'<=c/\(c'=c->hd F=h+1)
 | .TL h c' q=>h<n/\q<=n/\c'<=c/\(c'=c->hd F=h+1/\q=lk h)
 | .XO h=>h<n
 | .none=>True
inductive Vh (n c:Nat) (lk:Nat->Nat):List Nat->Tk->Nat->List Nat->Tk->Prop where
 | none:Vh n c lk [] .idle c [] .none
 | Vl (x:Nat) (F:List Nat) (hx:x<n):Vh n c lk (x :: F) .idle c (x :: F) (.Vl x c)
 | link (F:List Nat) (h c':Nat):Vh n c lk F (.Vl h c') c F (.TL h c' (lk h))
 | took (x:Nat) (F:List Nat) (hx:x<n):Vh n c lk (x :: F) (.TL x c (lk x)) (c+1) F (.XO x)
 | FX (F:List Nat) (h c' q:Nat) (hc:c'<c):Vh n c lk F (.TL h c' q) c F .idle
def FW (w:World) (b o:Nat) (T:TypeId) (c:Array Value) (τ:Tk):Prop:=∃ l,At w b o T c l/\τ.cells l
inductive Gv where
 | idle
 | Vl (h c:Nat)
 | TL (h c:Nat)
 | over
def Gv.cells (x:Nat):Gv->List Value->Prop
 | .idle,l=>∃ tp,l=U3 0 x tp
 | .Vl h c,l=>l=U3 1 x (ZC h c)
 | .TL h c,l=>l=U3 2 x (ZC h c)
 | .over,l=>∃ tp,l=U3 3 x tp
def Gv.good (n c:Nat) (lk:Nat->Nat) (F:List Nat) (x:Nat):Gv->Prop
 | .idle=>True
 | .Vl h c'=>h<=n/\c'<=c/\(c'=c->hd F=h)
 | .TL h c'=>h<=n/\lk x=h/\c'<=c/\(c'=c->hd F=h)
 | .over=>True
inductive Ug (n c:Nat) (x:Nat):(Nat->Nat)->List Nat->Gv->Nat->(Nat->Nat)->List Nat->Gv->Prop where
 | load (lk:Nat->Nat) (F:List Nat):Ug n c x lk F .idle c lk F (.Vl (hd F) c)
 | lay (lk:Nat->Nat) (F:List Nat) (h c':Nat):Ug n c x lk F (.Vl h c') c (upd lk x h) F (.TL h c')
 | gave (lk:Nat->Nat) (F:List Nat):Ug n c x lk F (.TL (hd F) c) (c+1) lk (x :: F) .over
 | FX (lk:Nat->Nat) (F:List Nat) (h c':Nat) (hc:c'<c):Ug n c x lk F (.TL h c') c lk F .idle
def Gv.done:Gv->Bool
 | .over=>true
 | _=>false
def zH (w:World) (b o:Nat) (T:TypeId) (c:Array Value) (x:Nat) (γ:Gv):Prop:=∃ l,At w b o T c l/\γ.cells x l
def Tk.at (t:Nat):Tk->Nat
 | .Vl h _=>6+t+h * 2+1
 | _=>1
def Gv.at (t x:Nat):Gv->Nat
 | .Vl _ _=>6+t+x * 2+1
 | _=>1
section
variable {w:World} {L:Loc} {s:Mm} {b o:Nat} {T:TypeId} {cs:Array Value} {t n σ c:Nat} {lk:Nat->Nat} {F:List Nat}
structure xq (w:World) (L:Loc) (s:Mm) (b o:Nat) (T:TypeId) (cs:Array Value) (t n σ c:Nat) (lk:Nat->Nat) (F:List Nat) (who:Int) (τ:Tk) (w':World) (s':Mm) (cs':Array Value) (c':Nat) (F':List Nat) (τ':Tk):Prop where
 turn:Vh n c lk F τ c' F' τ'
 m:Z8 w' L s'
 p:YH t n s' (σ+1) c' lk F'
 a:FW w' b o T cs' τ'
 same:Same o 4 cs cs'
 only:Only (L.and b) w w'
 good:τ'.good n c' lk F'
 mJ:s'.la=((τ.at t:Nat):Int)
 still:F=[]->τ=.idle->s'.wd=s.wd
 len:s'.n=s.n
 st:∃ v,s'=(s.by who).step (τ.at t) v
theorem I5 (h:Z8 w L s) (hb:¬ L.has b) (hp:YH t n s σ c lk F) (hσ:σ<1000000) (SY:t<=8) (τ:Tk) (hi:FW w b o T cs τ) (hg:τ.good n c lk F) (ho:τ.over=false) (c2 c3 c4 c5 c6 who:Int) :
 Calls Tryz.prog 142 #[pP b o,eV t n c2 c3 c4 c5 c6 L.p who] w fun e w'=>∃ s' cs' c' F' τ',e=.returned (.bool τ'.over)/\xq w L s b o T cs t n σ c lk F who τ w' s' cs' c' F' τ':=by
 have hn:1<s.n:=by have:=hp.len;omega
 have hC:c<=1000000:=by have:=hp.cs;omega
 have hbig:=hp.big
 obtain⟨l,ha,hl⟩:=hi
 cases τ with
 | XO _=>cases ho
 | none=>cases ho
 | idle =>
  obtain⟨tp,sl,bh,rfl⟩:=hl
  cases F with
  | nil =>
   refine(Kv h hb ha _ _ _ _ _ _ _ _ c hn hp.top hC).mono ?_
   rintro e w' ⟨rfl,cs',m,a,sm,on⟩
   exact⟨_,cs',c,[],.none,rfl,.none,m,hp.same hσ who 1,⟨_,a,_,_,_,rfl⟩,sm,on,trivial,rfl,fun _ _=>Vg _ _,rfl,_,rfl⟩
  | cons x F =>
   have hx:=hp.lt x (by simp)
   refine(Kw h hb ha _ _ _ _ _ _ _ _ x c hn hp.top hC (by omega) (by omega)).mono ?_
   rintro e w' ⟨rfl,cs',m,a,sm,on⟩
   exact⟨_,cs',c,x :: F,.Vl x c,rfl,.Vl x F hx,m,hp.same hσ who 1,⟨_,a,_,rfl⟩,sm,on,⟨hx,Nat.le_refl _,fun _=>rfl⟩,rfl,(fun h=>by cases h),rfl,_,rfl⟩
 | Vl x c0 =>
  obtain⟨bh,rfl⟩:=hl
  obtain⟨hx,hc0,hh⟩:=hg
  have hlk:=hp.IQ x hx
  refine(Ku h hb ha _ _ _ _ _ _ _ _ (lk x) (6+t+x * 2+1) (by omega) (by omega) (by omega) (by omega) (by have:=hp.len;omega) (hp.yC x hx) (by omega)).mono ?_
  rintro e w' ⟨rfl,cs',m,a,sm,on⟩
  exact⟨_,cs',c,F,.TL x c0 (lk x),rfl,.link F x c0,m,hp.same hσ who _,⟨_,a,rfl⟩,sm,on,⟨hx,hlk,hc0,fun e=>⟨hh e,rfl⟩⟩,rfl,(fun _ h=>by cases h),rfl,_,rfl⟩
 | TL x c0 q =>
  have hl':l=Uo 2 (ZC (x+1) c0) x ((q:Int) - 1):=hl
  subst hl'
  obtain⟨hx,hq,hc0,hh⟩:=hg
  have hd1:=hp.zX
  by_cases hc:c0=c
  . subst hc
    obtain⟨hd2,rfl⟩:=hh rfl
    cases F with
    | nil=>simp[hd] at hd2
    | cons y F =>
     obtain rfl:y=x:=by simpa [hd] using hd2
     refine(QZ h hb (y+1) c0 (lk y) ha _ _ _ _ _ _ _ _ hn (by omega) hC (by omega) (Or.inl ⟨hp.top,rfl,rfl,rfl⟩)).mono ?_
     rintro e w' ⟨rfl,cs',m,a,sm,on⟩
     exact⟨_,cs',c0+1,F,.XO y,rfl,.took y F hx,m,hp.pop hσ who,⟨_,a,_,_,rfl⟩,sm,on,hx,rfl,(fun h=>by cases h),rfl,_,rfl⟩
  . have hlt:c0<c:=by omega
    have hne:¬ s.wd 1=ZC (x+1) c0:=fun e=>by
     rw[hp.top] at e
     have:=(Nq (by omega) (by omega) e).2
     omega
    refine(QZ h hb (x+1) c0 q ha _ _ _ _ _ _ _ _ hn (by omega) (by omega) (by omega) (Or.inr ⟨hne,rfl,rfl,rfl⟩)).mono ?_
    rintro e w' ⟨rfl,cs',m,a,sm,on⟩
    exact⟨_,cs',c,F,.idle,rfl,.FX F x c0 q hlt,m,hp.same hσ who 1,⟨_,a,_,_,_,rfl⟩,sm,on,trivial,rfl,(fun _ h=>by cases h),rfl,_,rfl⟩
structure Dc (w:World) (L:Loc) (s:Mm) (b o:Nat) (T:TypeId) (cs:Array Value) (t n σ c:Nat) (lk:Nat->Nat) (F:List Nat) (x:Nat) (who:Int) (γ:Gv) (w':World) (s':Mm) (cs':Array Value) (c':Nat) (lk':Nat->Nat) (F':List Nat) (γ':Gv):Prop where
 turn:Ug n c x lk F γ c' lk' F' γ'
 m:Z8 w' L s'
 p:YH t n s' (σ+1) c' lk' F'
 a:zH w' b o T cs' x γ'
 same:Same o 3 cs cs'
 only:Only (L.and b) w w'
 good:γ'.good n c' lk' F' x
 len:s'.n=s.n
 st:∃ v,s'=(s.by who).step (γ.at t x) v
theorem I4 (h:Z8 w L s) (hb:¬ L.has b) (hp:YH t n s σ c lk F) (hσ:σ<1000000) (SY:t<=8) {x:Nat} (hx:x<n) (hF:x∉F) (γ:Gv) (hi:zH w b o T cs x γ) (hg:γ.good n c lk F x) (ho:γ.done=false) (c2 c3 c4 c5 c6 who:Int) :
 Calls Tryz.prog 154 #[pP b o,eV t n c2 c3 c4 c5 c6 L.p who] w fun e w'=>∃ s' cs' c' lk' F' γ',e=.returned (.bool γ'.done)/\Dc w L s b o T cs t n σ c lk F x who γ w' s' cs' c' lk' F' γ':=by
 have hn:1<s.n:=by have:=hp.len;omega
 have hC:c<=1000000:=by have:=hp.cs;omega
 have hbig:=hp.big
 have hd1:=hp.zX
 obtain⟨l,ha,hl⟩:=hi
 cases γ with
 | over=>cases ho
 | idle =>
  obtain⟨tp,rfl⟩:=hl
  refine(Kt h hb ha _ _ _ _ _ _ _ _ (hd F) c hn (by omega) hp.top).mono ?_
  rintro e w' ⟨rfl,cs',m,a,sm,on⟩
  exact⟨_,cs',c,lk,F,.Vl (hd F) c,rfl,.load lk F,m,hp.same hσ who 1,⟨_,a,rfl⟩,sm,on,⟨hd1,Nat.le_refl _,fun _=>rfl⟩,rfl,_,rfl⟩
 | Vl q c0 =>
  have hl':l=U3 1 x (ZC q c0):=hl
  subst hl'
  obtain⟨hq,hc0,hh⟩:=hg
  refine(GY h hb q c0 (6+t+x * 2+1) ha _ _ _ _ _ _ _ _ (by omega) (by omega) (by omega) (by omega) (by have:=hp.len;omega) (by omega) (by omega) (by omega)).mono ?_
  rintro e w' ⟨rfl,cs',m,a,sm,on⟩
  exact⟨_,cs',c,upd lk x q,F,.TL q c0,rfl,.lay lk F q c0,m,hp.lay hσ who hx hF q hq,⟨_,a,rfl⟩,sm,on,⟨hq,upd_same _ _ _,hc0,hh⟩,rfl,_,rfl⟩
 | TL q c0 =>
  have hl':l=U3 2 x (ZC q c0):=hl
  subst hl'
  obtain⟨hq,hlk,hc0,hh⟩:=hg
  by_cases hc:c0=c
  . subst hc
    have hd2:=hh rfl
    subst hd2
    refine(QY h hb (hd F) c0 ha _ _ _ _ _ _ _ _ hn (by omega) (by omega) (by omega) hC (Or.inl ⟨hp.top,rfl,rfl,rfl⟩)).mono ?_
    rintro e w' ⟨rfl,cs',m,a,sm,on⟩
    exact⟨_,cs',c0+1,lk,x :: F,.over,rfl,.gave lk F,m,hp.push hσ who hx hF hlk,⟨_,a,_,rfl⟩,sm,on,trivial,rfl,_,rfl⟩
  . have hlt:c0<c:=by omega
    have hne:¬ s.wd 1=ZC q c0:=fun e=>by
     rw[hp.top] at e
     have:=(Nq (by omega) (by omega) e).2
     omega
    refine(QY h hb q c0 ha _ _ _ _ _ _ _ _ hn (by omega) (by omega) (by omega) (by omega) (Or.inr ⟨hne,rfl,rfl,rfl⟩)).mono ?_
    rintro e w' ⟨rfl,cs',m,a,sm,on⟩
    exact⟨_,cs',c,lk,F,.idle,rfl,.FX lk F q c0 hlt,m,hp.same hσ who 1,⟨_,a,_,rfl⟩,sm,on,trivial,rfl,_,rfl⟩
theorem FU {τ:Tk} (hi:FW w b o T cs τ) (x:Nat) (hx:τ=.XO x) :
 Calls Tryz.prog 143 #[pP b o] w fun e w'=>e=.returned (.tuple #[iV x,.bool true])/\w'=w:=by
 subst hx
 obtain⟨l,ha,tp,bh,rfl⟩:=hi
 have k0:=ha.cell0 rfl
 have k2:=ha.cell 2 rfl
 go_enter Tryz.func143,Tryz.ntmps143
 go_wp2
 go_ret2
 exact⟨rfl,rfl⟩
theorem IY {τ:Tk} (hi:FW w b o T cs τ) (hx:τ=.none) :
 Calls Tryz.prog 143 #[pP b o] w fun e w'=>e=.returned (.tuple #[iV 0,.bool false])/\w'=w:=by
 subst hx
 obtain⟨l,ha,tp,sl,bh,rfl⟩:=hi
 have k0:=ha.cell0 rfl
 go_enter Tryz.func143,Tryz.ntmps143
 go_wp2
 go_ret2
 exact⟨rfl,rfl⟩
theorem TK (x:Nat) (w:World) :
 Calls Tryz.prog 149 #[iV x] w fun e w'=>e=.returned (pP w.heap.size 0)/\w'=w.alloc (.cells #[iV 0,iV x,.int .u64 0] 155):=by
 go_enter Tryz.func149,Tryz.ntmps149
 go_wp2
 go_ret
 exact⟨rfl,rfl⟩
end
end Go.Proofs.YtgehjolndmgffaaGreat
