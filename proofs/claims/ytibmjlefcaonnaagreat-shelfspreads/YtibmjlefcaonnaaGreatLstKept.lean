import Derived.Test.YtibmjlefcaonnaaGreatLstSolo
namespace Go.Proofs.YtibmjlefcaonnaaGreat
open Go.RowKit
structure Oi (h h':Gh) (K:Nat):Prop where
 J:h.J<=h'.J
 nd:∀ j,j<h.J->h'.nd j=h.nd j
 ma:∀ j,j<h.J->h'.ma j=h.ma j
 no:∀ j,j<h.J->h.ZL j=false->h.ma j≠K->h'.ZL j=false/\h'.st j=h.st j/\h'.cv j=h.cv j
theorem Oi.refl (h:Gh) (K:Nat):Oi h h K:=⟨Nat.le_refl _,fun _ _=>rfl,fun _ _=>rfl,fun _ _ e _=>⟨e,rfl,rfl⟩⟩
theorem Oi.trans {h h' h2:Gh} {K:Nat} (a:Oi h h' K) (b:Oi h' h2 K):Oi h h2 K:=by
 refine⟨Nat.le_trans a.J b.J,fun j hj=>(b.nd j (Nat.lt_of_lt_of_le hj a.J)).trans (a.nd j hj),fun j hj=>(b.ma j (Nat.lt_of_lt_of_le hj a.J)).trans (a.ma j hj),fun j hj hp hm=>?_⟩
 obtain⟨a1,a2,a3⟩:=a.no j hj hp hm
 obtain⟨b1,b2,b3⟩:=b.no j (Nat.lt_of_lt_of_le hj a.J) a1 (by rw[a.ma j hj];exact hm)
 exact⟨b1,b2.trans a2,b3.trans a3⟩
section
variable {t n k m σ K:Nat} {q q':Q} {h h':Gh} {jb:Nat->Jb} {hd:Nat} {F F':List Nat} {u u':Hi} {ts:Nat->Option (Cl × Option Rs)} {g p r:Int} {C C':Cl} {rs rs':Option Rs} {b':Jb} {pb:Bool}
theorem YP.kept {j:Nat} (c:YP h h' j) (hj:j<h.J->(h.ZL j=true\/h.ma j=K)\/h'.st j=h.st j):Oi h h' K:=by
 refine⟨by rw[c.J];exact Nat.le_refl _,fun i _=>by rw[c.nd],fun i _=>by rw[c.ma],fun i hi hp hm=>⟨by rw[c.ZL];exact hp,?_,by rw[c.cv]⟩⟩
 by_cases e:i=j
 . subst e
   rcases hj hi with(h1 | h1) | h1
   . rw[hp] at h1;cases h1
   . exact absurd h1 hm
   . exact h1
 . exact c.st i e
theorem SN.kept (X:Lc t n k m q σ h jb hd F u ts) (hts:ts K=some (C,rs)) (G:SN t n k m g h σ q u F K C rs (jb K) h' q' u' F' C' rs' b' pb):Oi h h' K:=by
 cases G with
 | pin=>exact Oi.refl _ _
 | @ac W j α α' _ _ _ _ _ _ hb hr ht G =>
  have O:=X.m.jk K
  rw[hb] at O
  obtain⟨hj,WK,-⟩:=O
  have T:=X.t K C rs hts
  obtain⟨h1,ev,BM,est⟩:=G.e
  refine⟨by rw[G.J];exact Nat.le_refl _,fun i _=>by rw[G.nd],fun i _=>by rw[G.ma],fun i hi hp hm=>⟨?_,?_,?_⟩⟩
  . cases G.sh with
    | same a=>rw[a];exact hp
    | mark p s s2 nx V st e o a=>rw[a];exact hp
    | cut c nx V st A B e o a=>rw[a];exact hp
    | put s d nx V st A B e o a =>
     have kn:=(T.run hr).1
     rw[e] at kn
     rw[a,Z8 _ _ _ _ (fun e'=>hm (by rw[e'];exact kn.2.2.1.ma))];exact hp
  all_goals
   have ne:i≠j:=fun e=>by
    subst e
    rcases WK.pv with h1 | ⟨h1,-⟩
    . rw[hp] at h1;cases h1
    . exact hm h1
  . rw[est]
    cases ev with
    | laid v hr h3=>exact Z8 _ _ _ _ ne
    | _=>rfl
  . rw[BM]
    cases ev with
    | laid v hr h3=>exact Z8 _ _ _ _ ne
    | _=>rfl
 | @dp j α α' _ _ _ hb hr ht c h1 h2 =>
  have O:=X.m.jk K
  rw[hb] at O
  exact c.kept (fun _=>Or.inl O.2.1)
 | al hb hr ht ev h1 h2 =>
  cases ev with
  | on c hs=>exact c.kept (fun _=>hs.symm.imp (fun e=>Or.inr e.2.2) id)
  | YF=>exact⟨Nat.le_succ _,fun i hi=>(Zz _ hi).1,fun i hi=>(Zz _ hi).2.2.2.2.2,fun i hi hp _=>⟨(Zz _ hi).2.2.2.2.1.trans hp,(Zz _ hi).2.1,(Zz _ hi).2.2.1⟩⟩
  | made hj hd' hm h2 h3 c=>exact c.kept (fun _=>Or.inl (Or.inr hm))
  | none=>exact Oi.refl _ _
  | full c hs=>exact c.kept (fun _=>Or.inr hs)
end
end Go.Proofs.YtibmjlefcaonnaaGreat
