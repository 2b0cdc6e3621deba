import Derived.Test.YtibmjlefcaonnaaGreatLstNext
namespace Go.Proofs.YtibmjlefcaonnaaGreat
open Go.RowKit
theorem CO {f:Nat->Nat} {k:Nat} (h:∀ i,i<k->f i=1):tot f k=k:=by
 induction k with
 | zero=>rfl
 | succ k ih=>show tot f k+f k=k+1;rw[ih (fun i hi=>h i (by omega)),h k (by omega)]
theorem Oh {c k:Nat}:∀ (L:List Nat) (f:Nat->Nat),L.Nodup->(∀ i,i∈L->i<k/\c<=f i)->L.length * c<=tot f k:=by
 intro L
 induction L with
 | nil=>intro f _ _;simp
 | cons a L ih =>
  intro f nd h
  obtain⟨ha,nd⟩:=List.nodup_cons.1 nd
  obtain⟨a1,a2⟩:=h a (by simp)
  have h1:=YO (f:=f) (g:=upd f a 0) a1 (fun i _ hi=>Z8 _ _ _ _ hi)
  rw[upd_same] at h1
  have h2:=ih (upd f a 0) nd (fun i hi=>by
   rw[Z8 _ _ _ _ (fun e=>ha (by rw[<- e];exact hi))]
   exact h i (List.mem_cons_of_mem _ hi))
  rw[List.length_cons,Nat.succ_mul]
  omega
def Pl.hold:Pl->Nat
 | .opn _ _ _=>1
 | .Wh _ _ _=>1
 | _=>0
def Pl.stale (op:Nat):Pl->Nat
 | .ask i=>if i+1=op then 0 else 1
 | .look sn _=>if sn=op then 0 else 1
 | .take sn _ _=>if sn=op then 0 else 1
 | .opn sn _ _=>if sn=op then 0 else 1
 | .Wh _ _ _=>1
 | _=>0
def XT:Option Pl->Nat
 | none=>0
 | some τ=>τ.hold
def YQ (op:Nat):Option Pl->Nat
 | none=>0
 | some τ=>τ.stale op
theorem SK (o:Option Pl):XT o<=1:=by
 cases o with
 | none=>exact Nat.zero_le _
 | some τ=>show τ.hold<=1;cases τ <;> simp[Pl.hold]
theorem Fj (op:Nat) (o:Option Pl):YQ op o<=1:=by
 cases o with
 | none=>exact Nat.zero_le _
 | some τ =>
  show τ.stale op<=1
  cases τ <;> simp only[Pl.stale] <;> first | decide | (split <;> decide)
def BC:List Nat->Nat
 | []=>0
 | i :: _=>i+1
def KY (m:Nat) (y:Y) (O:List Nat) (sn:Nat):Prop:=sn=0\/∃ i,sn=i+1/\i∈O/\m<(y.ck i).us+3
def NM (k m:Nat) (y:Y) (tk:Nat->Bool) (O:List Nat):Pl->Prop
 | .ask i=>i∈O
 | .grow i c=>i∈O/\c.st=1/\c.cl=0
 | .look sn i=>KY m y O sn/\(∀ l,l<i->tk l=true)/\i<k
 | .take sn i c=>KY m y O sn/\(∀ l,l<i->tk l=true)/\(tk i=true\/y.ck i=c)/\i<k/\c.st=0
 | .opn sn i c=>KY m y O sn/\y.ck i=c/\i∉O/\tk i=true/\i<k/\c.st=1/\c.cl=0/\c.us=0
 | .Wh _ i c=>y.ck i=c/\i∉O/\tk i=true/\i<k/\c.st=1/\c.us=0
 | _=>True
def Pl.mine (i:Nat):Pl->Prop
 | .opn _ l _=>l=i
 | .Wh _ l _=>l=i
 | _=>False
structure Rm (N k m:Nat) (y:Y) (pl:Nat->Option Pl) (J:Nat) (tk:Nat->Bool) (O:List Nat) (Fl:Nat):Prop where
 op:y.op 0=BC O
 o1:∀ i,i∈O->i<k/\(y.ck i).st=1/\tk i=true/\(y.ck i).cl=0
 EJ:O.Nodup
 full:∀ i,i∈O.tail->m<(y.ck i).us+3
 fr:∀ i,i<k->tk i=false->(y.ck i).st=0
 zu:∀ i,i<k->(y.ck i).st=0->(y.ck i).us=0
 us:tot (fun i=>(y.ck i).us) k=3 * J
 cnt:tot (fun i=>if tk i then 1 else 0) k<=O.length+Fl+tot (fun K=>XT (pl K)) N
 uG:Fl+tot (fun K=>YQ (y.op 0) (pl K)) N<=(N - 1) * (O.length - 1)
 th:∀ K τ,pl K=some τ->NM k m y tk O τ
 o0:O≠[]
 sep:∀ K K' τ τ' i,K≠K'->pl K=some τ->pl K'=some τ'->τ.mine i->¬ τ'.mine i
section
variable {N k m J Fl K:Nat} {y y':Y} {pl:Nat->Option Pl} {tk:Nat->Bool} {O:List Nat} {τ τ':Pl} {bs:Nat->Nat}
theorem KY.keep {O':List Nat} {sn:Nat} (s:KY m y O sn) (hO:∀ i,i∈O->i∈O') (hu:∀ i,i∈O->(y.ck i).us<=(y'.ck i).us):KY m y' O' sn:=by
 rcases s with s | ⟨i,e,h1,h2⟩
 . exact Or.inl s
 . exact Or.inr ⟨i,e,hO i h1,by have:=hu i h1;omega⟩
theorem NM.keep {Rl:Nat->Bool} {O':List Nat} (P:NM k m y tk O τ) (hO:∀ i,i∈O->i∈O') (hu:∀ i,i∈O->(y.ck i).us<=(y'.ck i).us) (ht:∀ i,tk i=true->Rl i=true) (hc:∀ i,Rl i=true\/y'.ck i=y.ck i) (hm:∀ i,τ.mine i->i∉O->y'.ck i=y.ck i/\i∉O'):NM k m y' Rl O' τ:=by
 cases τ with
 | ask i=>exact hO i P
 | grow i c=>exact⟨hO i P.1,P.2⟩
 | look sn i=>exact⟨P.1.keep hO hu,fun l hl=>ht l (P.2.1 l hl),P.2.2⟩
 | take sn i c =>
  refine⟨P.1.keep hO hu,fun l hl=>ht l (P.2.1 l hl),?_,P.2.2.2⟩
  rcases P.2.2.1 with h | h
  . exact Or.inl (ht i h)
  . rcases hc i with h' | h'
    . exact Or.inl h'
    . exact Or.inr (h'.trans h)
 | opn sn i c =>
  obtain⟨a1,a2⟩:=hm i rfl P.2.2.1
  exact⟨P.1.keep hO hu,a1.trans P.2.1,a2,ht i P.2.2.2.1,P.2.2.2.2⟩
 | Wh sn i c =>
  obtain⟨a1,a2⟩:=hm i rfl P.2.1
  exact⟨a1.trans P.1,a2,ht i P.2.2.1,P.2.2.2⟩
 | see=>trivial
 | YF a i=>trivial
 | none=>trivial
theorem Rm.count (R:Rm N k 40 y pl J tk O Fl) {z:Nat} (hz:tot (fun K=>XT (pl K)) N<=z) (hJ:3 * J<(O.length - 1) * 38\/O.length+Fl+z+1<=k):∃ i,i<k/\tk i=false:=by
 refine Classical.byContradiction fun hno=>?_
 have hall:∀ i,i<k->tk i=true:=fun i hi=>by
  cases h:tk i with
  | true=>rfl
  | false=>exact absurd ⟨i,hi,h⟩ hno
 have h1:tot (fun i=>if tk i then 1 else 0) k=k:=CO (fun i hi=>by simp[hall i hi])
 have h3:O.tail.length * 38<=tot (fun i=>(y.ck i).us) k:=Oh O.tail _ (R.EJ.sublist (List.tail_sublist O)) (fun i hi=>⟨(R.o1 i (List.mem_of_mem_tail hi)).1,by have:=R.full i hi;omega⟩)
 have h4:=R.cnt
 have h6:=R.us
 rw[List.length_tail] at h3
 rcases hJ with hJ | hJ <;> omega
theorem Rm.TI (R:Rm 4 k 40 y pl J tk O 0) {K:Nat} (ha:∀ K',K'≠K->pl K'=none) (hJ:3 * J<(k - 2) * 38):∃ i,i<k/\tk i=false:=by
 have h2:tot (fun K=>XT (pl K)) 4<=1:=by
  have e:∀ K',K'≠K->XT (pl K')=0:=fun K' h=>by rw[ha K' h];rfl
  have b0:=SK (pl 0)
  have b1:=SK (pl 1)
  have b2:=SK (pl 2)
  have b3:=SK (pl 3)
  show 0+XT (pl 0)+XT (pl 1)+XT (pl 2)+XT (pl 3)<=1
  by_cases k0:0=K
  . rw[e 1 (by omega),e 2 (by omega),e 3 (by omega)];omega
  . rw[e 0 k0]
    by_cases k1:1=K
    . rw[e 2 (by omega),e 3 (by omega)];omega
    . rw[e 1 k1]
      by_cases k2:2=K
      . rw[e 3 (by omega)];omega
      . rw[e 2 k2];omega
 by_cases h:O.length+2<=k
 . exact R.count h2 (Or.inr (by omega))
 . exact R.count h2 (Or.inl (by omega))
theorem Rm.put (R:Rm N k m y pl J tk O Fl) (hK:K<N) (hp:pl K=some τ) {o:Option Pl} {J' Fl':Nat} {Rl:Nat->Bool} {O':List Nat}
 (op:y'.op 0=BC O') (o0:O'≠[]) (o1:∀ i,i∈O'->i<k/\(y'.ck i).st=1/\Rl i=true/\(y'.ck i).cl=0) (EJ:O'.Nodup) (full:∀ i,i∈O'.tail->m<(y'.ck i).us+3) (fr:∀ i,i<k->Rl i=false->(y'.ck i).st=0) (zu:∀ i,i<k->(y'.ck i).st=0->(y'.ck i).us=0) (us:tot (fun i=>(y'.ck i).us) k=3 * J')
 (cnt:tot (fun i=>if Rl i then 1 else 0) k+O.length+Fl+τ.hold<=tot (fun i=>if tk i then 1 else 0) k+O'.length+Fl'+XT o)
 (uG:Fl'+YQ (y'.op 0) o+tot (fun K=>YQ (y'.op 0) (pl K)) N+(N - 1) * (O.length - 1)<=Fl+YQ (y'.op 0) (pl K)+tot (fun K=>YQ (y.op 0) (pl K)) N+(N - 1) * (O'.length - 1))
 (th:∀ τ1,o=some τ1->NM k m y' Rl O' τ1) (hO:∀ i,i∈O->i∈O') (hu:∀ i,i∈O->(y.ck i).us<=(y'.ck i).us) (ht:∀ i,tk i=true->Rl i=true) (hc:∀ i,Rl i=true\/y'.ck i=y.ck i) (hm:∀ K' τ1 i,K'≠K->pl K'=some τ1->τ1.mine i->i∉O->y'.ck i=y.ck i/\i∉O') (hs:∀ τ1 i,o=some τ1->τ1.mine i->∀ K' τ2,K'≠K->pl K'=some τ2->¬ τ2.mine i):Rm N k m y' (upd pl K o) J' Rl O' Fl':=by
 refine⟨op,o1,EJ,full,fr,zu,us,?_,?_,fun K' τ1 e=>?_,o0,fun K1 K2 τ1 τ2 i hne e1 e2 m1=>?_⟩
 . have h1:=YO (f:=fun K=>XT (pl K)) (g:=fun K'=>XT (upd pl K o K')) hK (fun i _ hi=>by rw[Z8 _ _ _ _ hi])
   simp only[upd_same,hp] at h1
   have h2:=R.cnt
   have h3:XT (some τ)=τ.hold:=rfl
   omega
 . have h1:=YO (f:=fun K=>YQ (y'.op 0) (pl K)) (g:=fun K'=>YQ (y'.op 0) (upd pl K o K')) hK (fun i _ hi=>by rw[Z8 _ _ _ _ hi])
   simp only[upd_same] at h1
   have h2:=R.uG
   omega
 . by_cases e':K'=K
   . rw[e',upd_same] at e;exact th τ1 e
   . rw[Z8 _ _ _ _ e'] at e
     exact(R.th K' τ1 e).keep hO hu ht hc (fun i h1 h2=>hm K' τ1 i e' e h1 h2)
 . by_cases c1:K1=K
   . rw[c1,upd_same] at e1
     have c2:K2≠K:=fun c2=>hne (by rw[c1,c2])
     rw[Z8 _ _ _ _ c2] at e2
     exact hs τ1 i e1 m1 K2 τ2 c2 e2
   . rw[Z8 _ _ _ _ c1] at e1
     by_cases c2:K2=K
     . rw[c2,upd_same] at e2
       exact fun m2=>hs τ2 i e2 m2 K1 τ1 c1 e1 m1
     . rw[Z8 _ _ _ _ c2] at e2
       exact R.sep K1 K2 τ1 τ2 i hne e1 e2 m1
theorem Rm.look (R:Rm N k m y pl J tk O Fl) (hK:K<N) (hp:pl K=some τ) (hold:τ.hold=0) (hold':τ'.hold=0) (hs:τ'.stale (y.op 0)<=τ.stale (y.op 0)) (P:NM k m y tk O τ'):Rm N k m y (upd pl K (some τ')) J tk O Fl:=by
 have nm:∀ i,¬ τ'.mine i:=fun i h=>by cases τ' <;> first | exact h | cases hold'
 refine R.put hK hp R.op R.o0 R.o1 R.EJ R.full R.fr R.zu R.us (by rw[hold];omega) (by rw[hp];show Fl+τ'.stale _+_+_<=Fl+τ.stale _+_+_;omega) (fun τ1 e=>by injection e with e;subst e;exact P) (fun _ h=>h) (fun _ _=>Nat.le_refl _) (fun _ h=>h) (fun _=>Or.inr rfl) (fun _ _ _ _ _ _ h=>⟨rfl,h⟩) (fun τ1 i e h=>by injection e with e;subst e;exact absurd h (nm i))
theorem XB (k op sn i:Nat):(Wp k sn i).stale op<=(if sn=op then 0 else 1)/\(Wp k sn i).hold=0:=by
 unfold Wp
 split
 . exact⟨Nat.le_refl _,rfl⟩
 . exact⟨Nat.zero_le _,rfl⟩
theorem KX {sn i:Nat} (s:KY m y O sn) (h:∀ l,l<i->tk l=true):NM k m y tk O (Wp k sn i):=by
 unfold Wp
 split
 . exact⟨s,h,by assumption⟩
 . trivial
theorem Rj {sn i:Nat} (h:∀ l,l<i->tk l=true) (e:Wp k sn i=.none):∀ l,l<k->tk l=true:=by
 unfold Wp at e
 split at e
 . cases e
 . exact fun l hl=>h l (by omega)
theorem Rm.step (R:Rm N k m y pl J tk O Fl) (hK:K<N) (hp:pl K=some τ) (ho:τ.over=false) (e:turn k m 0 bs y τ=(y',τ')) :
 (τ'=.none->∀ l,l<k->tk l=true)/\(∀ a i,τ'=.YF a i->Rm N k m y' (upd pl K none) (J+1) tk O Fl)/\(τ'.over=false->∃ Rl O' Fl',Rm N k m y' (upd pl K (some τ')) J Rl O' Fl'/\((∀ sn i c,τ≠.Wh sn i c)->Fl'=Fl)):=by
 have P:=R.th K τ hp
 have look:∀ {τ1:Pl},τ.hold=0->τ1.hold=0->τ1.stale (y.op 0)<=τ.stale (y.op 0)->NM k m y tk O τ1->((τ1=.none->∀ l,l<k->tk l=true))->(∀ a i,τ1≠.YF a i)->(τ1=.none->∀ l,l<k->tk l=true)/\(∀ a i,τ1=.YF a i->Rm N k m y (upd pl K none) (J+1) tk O Fl)/\(τ1.over=false->∃ Rl O' Fl',Rm N k m y (upd pl K (some τ1)) J Rl O' Fl'/\((∀ sn i c,τ≠.Wh sn i c)->Fl'=Fl)):=fun h1 h2 h3 h4 h5 h6 =>
  ⟨h5,fun a i e=>absurd e (h6 a i),fun _=>⟨tk,O,Fl,R.look hK hp h1 h2 h3 h4,fun _=>rfl⟩⟩
 have zK:∀ sn i a l,Wp k sn i≠.YF a l:=fun sn i a l e=>by unfold Wp at e;split at e <;> cases e
 cases τ with
 | YF a i=>cases ho
 | none=>cases ho
 | see =>
  have hop:=R.op
  cases hO:O with
  | nil=>exact absurd hO R.o0
  | cons i O' =>
   have h1:y.op 0=i+1:=by rw[hop,hO];rfl
   simp only[turn,h1] at e
   obtain⟨rfl,rfl⟩:=Prod.mk.inj e
   rw[<- hO]
   exact look rfl rfl (by simp[Pl.stale,h1]) (by show i∈O;rw[hO];simp) (fun e=>by cases e) (fun a i e=>by cases e)
 | ask i =>
  have hi:i∈O:=P
  obtain⟨a1,a2,a3,a4⟩:=R.o1 i hi
  simp only[turn] at e
  by_cases hr:(y.ck i).us+room 0<=m
  . rw[if_pos ⟨a2,a4,hr⟩] at e
    obtain⟨rfl,rfl⟩:=Prod.mk.inj e
    exact look rfl rfl (Nat.zero_le _) ⟨hi,a2,a4⟩ (fun e=>by cases e) (fun a i e=>by cases e)
  . rw[if_neg (fun h=>hr h.2.2)] at e
    obtain⟨rfl,rfl⟩:=Prod.mk.inj e
    have hr':m<(y.ck i).us+3:=by have:room 0=3:=rfl;omega
    exact look rfl (XB _ 0 _ _).2 (XB k (y.op 0) (i+1) 0).1 (KX (Or.inr ⟨i,rfl,hi,hr'⟩) (fun l hl=>by omega)) (Rj (fun l hl=>by omega)) (zK _ _)
 | look sn i =>
  obtain⟨s,hl,hik⟩:=P
  simp only[turn] at e
  by_cases h0:(y.ck i).st=0
  . rw[if_pos h0] at e
    obtain⟨rfl,rfl⟩:=Prod.mk.inj e
    exact look rfl rfl (Nat.le_refl _) ⟨s,hl,Or.inr rfl,hik,h0⟩ (fun e=>by cases e) (fun a i e=>by cases e)
  . rw[if_neg h0] at e
    obtain⟨rfl,rfl⟩:=Prod.mk.inj e
    have hl':∀ l,l<i+1->tk l=true:=fun l hl'=>by
     by_cases e:l=i
     . rw[e]
       cases ht:tk i with
       | true=>rfl
       | false=>exact absurd (R.fr i hik ht) h0
     . exact hl l (by omega)
    exact look rfl (XB _ 0 _ _).2 (XB k (y.op 0) sn (i+1)).1 (KX s hl') (Rj hl') (zK _ _)
 | grow i c =>
  obtain⟨hi,c1,c0⟩:=P
  obtain⟨a1,a2,a3,a4⟩:=R.o1 i hi
  simp only[turn] at e
  by_cases hc:y.ck i=c
  . rw[if_pos hc] at e
    obtain⟨rfl,rfl⟩:=Prod.mk.inj e
    refine⟨(fun e=>by cases e),fun a i' e=>?_,(fun e=>by cases e)⟩
    have Ut:∀ l,l≠i->upd y.ck i ⟨c.st,c.cl,c.us+room 0,c.sp⟩ l=y.ck l:=fun l hl=>Z8 _ _ _ _ hl
    have Ht:upd y.ck i ⟨c.st,c.cl,c.us+room 0,c.sp⟩ i=⟨c.st,c.cl,c.us+3,c.sp⟩:=upd_same _ _ _
    have hle:∀ l,(y.ck l).us<=(upd y.ck i ⟨c.st,c.cl,c.us+room 0,c.sp⟩ l).us:=fun l=>by
     by_cases e:l=i
     . rw[e,Ht,hc];exact Nat.le_add_right _ _
     . rw[Ut l e];exact Nat.le_refl _
    refine R.put hK hp R.op R.o0 (fun l hl=>?_) R.EJ (fun l hl=>Nat.lt_of_lt_of_le (R.full l hl) (by have:=hle l;show _<=(upd y.ck i _ l).us+3;omega)) (fun l hlk hl=>?_) (fun l hlk hl=>?_) ?_ (by show _+0<=_+0;omega) (by rw[hp];show Fl+0+_+_<=Fl+0+_+_;exact Nat.le_refl _) (fun τ1 e=>by cases e) (fun _ h=>h) (fun l _=>hle l) (fun _ h=>h) (fun l=>?_) (fun K' τ1 l hne hp' hm hl=>⟨Ut l (fun e=>hl (by rw[e];exact hi)),hl⟩) (fun τ1 l e=>by cases e)
    . obtain⟨b1,b2,b3,b4⟩:=R.o1 l hl
      by_cases e:l=i
      . refine⟨b1,?_,b3,?_⟩
        . show (upd y.ck i _ l).st=1;rw[e,Ht];exact c1
        . show (upd y.ck i _ l).cl=0;rw[e,Ht];exact c0
      . refine⟨b1,?_,b3,?_⟩
        . show (upd y.ck i _ l).st=1;rw[Ut l e];exact b2
        . show (upd y.ck i _ l).cl=0;rw[Ut l e];exact b4
    . have:l≠i:=fun e=>by rw[e,a3] at hl;cases hl
      show (upd y.ck i _ l).st=0
      rw[Ut l this];exact R.fr l hlk hl
    . have hl':(upd y.ck i ⟨c.st,c.cl,c.us+room 0,c.sp⟩ l).st=0:=hl
      by_cases e:l=i
      . rw[e,Ht] at hl'
        have zJ:c.st=0:=hl'
        omega
      . show (upd y.ck i _ l).us=0
        rw[Ut l e] at hl' ⊢;exact R.zu l hlk hl'
    . have h1:=YO (f:=fun l=>(y.ck l).us) (g:=fun l=>(upd y.ck i ⟨c.st,c.cl,c.us+room 0,c.sp⟩ l).us) a1 (fun l _ hl=>by rw[Ut l hl])
      simp only[Ht,hc] at h1
      have:=R.us
      show tot (fun l=>(upd y.ck i ⟨c.st,c.cl,c.us+room 0,c.sp⟩ l).us) k=_
      omega
    . by_cases e:l=i
      . exact Or.inl (by rw[e];exact a3)
      . exact Or.inr (Ut l e)
  . rw[if_neg hc] at e
    obtain⟨rfl,rfl⟩:=Prod.mk.inj e
    exact look rfl rfl (Nat.zero_le _) trivial (fun e=>by cases e) (fun a i e=>by cases e)
 | take sn i c =>
  obtain⟨s,hl,htk,hik,c0⟩:=P
  simp only[turn] at e
  by_cases hc:y.ck i=c
  . rw[if_pos hc] at e
    obtain⟨rfl,rfl⟩:=Prod.mk.inj e
    have hst:(y.ck i).st=0:=by rw[hc];exact c0
    have hus:=R.zu i hik hst
    have EF:i∉O:=fun h=>by have:=(R.o1 i h).2.1;omega
    have Ut:∀ l,l≠i->upd y.ck i ⟨1,0,0,c.sp+1⟩ l=y.ck l:=fun l hl=>Z8 _ _ _ _ hl
    have Ht:upd y.ck i ⟨1,0,0,c.sp+1⟩ i=⟨1,0,0,c.sp+1⟩:=upd_same _ _ _
    have BB:∀ K' τ1,pl K'=some τ1->¬ τ1.mine i:=fun K' τ1 hp' hm=>by
     have P':=R.th K' τ1 hp'
     cases τ1 with
     | opn wE l c' =>
      obtain rfl:l=i:=hm
      have:=P'.2.2.2.2.2.1
      rw[<- P'.2.1] at this;omega
     | Wh wE l c' =>
      obtain rfl:l=i:=hm
      have:=P'.2.2.2.2.1
      rw[<- P'.1] at this;omega
     | _=>exact hm
    refine⟨(fun e=>by cases e),(fun a i' e=>by cases e),fun _=>⟨upd tk i true,O,Fl,?_,fun _=>rfl⟩⟩
    refine R.put hK hp R.op R.o0 (fun l hl'=>?_) R.EJ (fun l hl'=>?_) (fun l hlk hl'=>?_) (fun l hlk hl'=>?_) ?_ ?_ (by rw[hp];exact Nat.le_refl _) (fun τ1 e=>?_) (fun _ h=>h) (fun l hl'=>?_) (fun l h=>?_) (fun l=>?_) (fun K' τ1 l hne hp' hm hl'=>⟨Ut l (fun e=>BB K' τ1 hp' (by rw[<- e];exact hm)),hl'⟩) (fun τ1 l e hm K' τ2 hne hp'=>?_)
    . have hne:l≠i:=fun e=>EF (by rw[<- e];exact hl')
      obtain⟨b1,b2,b3,b4⟩:=R.o1 l hl'
      refine⟨b1,?_,?_,?_⟩
      . show (upd y.ck i _ l).st=1;rw[Ut l hne];exact b2
      . rw[Z8 _ _ _ _ hne];exact b3
      . show (upd y.ck i _ l).cl=0;rw[Ut l hne];exact b4
    . have hne:l≠i:=fun e=>EF (by rw[<- e];exact List.mem_of_mem_tail hl')
      show m<(upd y.ck i _ l).us+3
      rw[Ut l hne];exact R.full l hl'
    . have hne:l≠i:=fun e=>by rw[e,upd_same] at hl';cases hl'
      rw[Z8 _ _ _ _ hne] at hl'
      show (upd y.ck i _ l).st=0
      rw[Ut l hne];exact R.fr l hlk hl'
    . have zJ:(upd y.ck i ⟨1,0,0,c.sp+1⟩ l).st=0:=hl'
      show (upd y.ck i _ l).us=0
      by_cases e:l=i
      . rw[e,Ht]
      . rw[Ut l e] at zJ ⊢;exact R.zu l hlk zJ
    . have h1:=YO (f:=fun l=>(y.ck l).us) (g:=fun l=>(upd y.ck i ⟨1,0,0,c.sp+1⟩ l).us) hik (fun l _ hl=>by rw[Ut l hl])
      simp only[Ht] at h1
      have:=R.us
      show tot (fun l=>(upd y.ck i ⟨1,0,0,c.sp+1⟩ l).us) k=_
      omega
    . have h1:=YO (f:=fun l=>if tk l then 1 else 0) (g:=fun l=>if upd tk i true l then 1 else 0) hik (fun l _ hl=>by rw[Z8 _ _ _ _ hl])
      simp only[upd_same,if_true] at h1
      show _+0<=_+1
      omega
    . injection e with e
      subst e
      exact⟨s.keep (fun _ h=>h) (fun l hl'=>by show (y.ck l).us<=(upd y.ck i _ l).us;rw[Ut l (fun e=>EF (by rw[<- e];exact hl'))];exact Nat.le_refl _),Ht,EF,upd_same _ _ _,hik,rfl,rfl,rfl⟩
    . show (y.ck l).us<=(upd y.ck i _ l).us
      rw[Ut l (fun e=>EF (by rw[<- e];exact hl'))];exact Nat.le_refl _
    . by_cases e:l=i
      . rw[e,upd_same]
      . rw[Z8 _ _ _ _ e];exact h
    . by_cases e:l=i
      . exact Or.inl (by rw[e,upd_same])
      . exact Or.inr (Ut l e)
    . injection e with e
      subst e
      obtain rfl:i=l:=hm
      exact BB K' τ2 hp'
  . rw[if_neg hc] at e
    obtain⟨rfl,rfl⟩:=Prod.mk.inj e
    have hti:tk i=true:=htk.resolve_right hc
    have hl':∀ l,l<i+1->tk l=true:=fun l hl'=>by
     by_cases e:l=i
     . rw[e];exact hti
     . exact hl l (by omega)
    exact look rfl (XB _ 0 _ _).2 (XB k (y.op 0) sn (i+1)).1 (KX s hl') (Rj hl') (zK _ _)
 | opn sn i c =>
  obtain⟨s,hc,EF,hti,hik,c1,c2,c3⟩:=P
  simp only[turn] at e
  by_cases hop:y.op 0=sn
  . rw[if_pos hop] at e
    obtain⟨rfl,rfl⟩:=Prod.mk.inj e
    refine⟨(fun e=>by cases e),(fun a i' e=>by cases e),fun _=>⟨tk,i :: O,Fl,?_,fun _=>rfl⟩⟩
    have hop':(upd y.op 0 (i+1)) 0=i+1:=upd_same _ _ _
    have hlen:1<=O.length:=by
     cases hO:O with
     | nil=>exact absurd hO R.o0
     | cons a b=>simp
    refine R.put hK hp hop' (by simp) (fun l hl=>?_) (List.nodup_cons.2 ⟨EF,R.EJ⟩) (fun l hl=>?_) R.fr R.zu R.us (by show _+1<=_+(O.length+1)+_+0;omega) ?_ (fun τ1 e=>by injection e with e;subst e;trivial) (fun l h=>List.mem_cons_of_mem _ h) (fun _ _=>Nat.le_refl _) (fun _ h=>h) (fun _=>Or.inr rfl) (fun K' τ1 l hne hp' hm hl=>⟨rfl,fun h=>?_⟩) (fun τ1 l e hm=>by injection e with e;subst e;exact hm.elim)
    . rcases List.mem_cons.1 hl with e | e
      . rw[e];exact⟨hik,by show (y.ck i).st=1;rw[hc];exact c1,hti,by show (y.ck i).cl=0;rw[hc];exact c2⟩
      . exact R.o1 l e
    . have hl':l∈O:=hl
      have hh:=R.op
      cases hO:O with
      | nil=>exact absurd hO R.o0
      | cons a b =>
       rw[hO] at hl' hh
       rcases List.mem_cons.1 hl' with e | e
       . rcases s with s | ⟨i0,e0,-,hf⟩
         . rw[s] at hop;rw[hop] at hh;cases hh
         . rw[<- hop,hh] at e0
           have:i0=a:=by have e1:a+1=i0+1:=e0;omega
           rw[e,<- this];exact hf
       . exact R.full l (by rw[hO];exact e)
    . show Fl+0+tot (fun K=>YQ (upd y.op 0 (i+1) 0) (pl K)) N+(N - 1) * (O.length - 1)<=Fl+YQ (upd y.op 0 (i+1) 0) (pl K)+tot (fun K=>YQ (y.op 0) (pl K)) N+(N - 1) * (O.length+1 - 1)
      have h1:=YO (f:=fun K=>YQ (upd y.op 0 (i+1) 0) (pl K)) (g:=fun K'=>if K'=K then 0 else YQ (upd y.op 0 (i+1) 0) (pl K')) hK (fun l _ hl=>by simp only[hl,if_false])
      simp only[if_true] at h1
      have h2:tot (fun K'=>if K'=K then 0 else YQ (upd y.op 0 (i+1) 0) (pl K')) N+1<=N:=by
       have g1:=YO (f:=fun K'=>if K'=K then 0 else YQ (upd y.op 0 (i+1) 0) (pl K')) (g:=fun K'=>if K'=K then 1 else YQ (upd y.op 0 (i+1) 0) (pl K')) hK (fun l _ hl=>by simp only[hl,if_false])
       simp only[if_true] at g1
       have g2:=UR (f:=fun K'=>if K'=K then 1 else YQ (upd y.op 0 (i+1) 0) (pl K')) (J:=N) (fun l _=>by show (if l=K then 1 else _)<=1;split <;> first | exact Nat.le_refl _ | exact Fj _ _)
       omega
      obtain⟨x,hx⟩:∃ x,O.length=x+1:=⟨O.length - 1,by omega⟩
      rw[hx,Nat.add_sub_cancel,Nat.add_sub_cancel,Nat.mul_succ]
      omega
    . rcases List.mem_cons.1 h with e | e
      . rw[e] at hm
        exact R.sep K K' _ τ1 i (Ne.symm hne) hp hp' rfl hm
      . exact hl e
  . rw[if_neg hop] at e
    obtain⟨rfl,rfl⟩:=Prod.mk.inj e
    refine⟨(fun e=>by cases e),(fun a i' e=>by cases e),fun _=>⟨tk,O,Fl,?_,fun _=>rfl⟩⟩
    refine R.put hK hp R.op R.o0 R.o1 R.EJ R.full R.fr R.zu R.us (Nat.le_refl _) ?_ (fun τ1 e=>by injection e with e;subst e;exact⟨hc,EF,hti,hik,c1,c3⟩) (fun _ h=>h) (fun _ _=>Nat.le_refl _) (fun _ h=>h) (fun _=>Or.inr rfl) (fun _ _ _ _ _ _ h=>⟨rfl,h⟩) (fun τ1 l e hm K' τ2 hne hp'=>?_)
    . rw[hp]
      show Fl+1+_+_<=Fl+(if sn=y.op 0 then 0 else 1)+_+_
      rw[if_neg (Ne.symm hop)];exact Nat.le_refl _
    . injection e with e
      subst e
      exact R.sep K K' _ τ2 l (Ne.symm hne) hp hp' hm
 | Wh sn i c =>
  obtain⟨hc,EF,hti,hik,c1,c3⟩:=P
  simp only[turn] at e
  rw[if_pos hc] at e
  obtain⟨rfl,rfl⟩:=Prod.mk.inj e
  refine⟨(fun e=>by cases e),(fun a i' e=>by cases e),fun _=>⟨tk,O,Fl+1,?_,fun h=>absurd rfl (h _ _ _)⟩⟩
  have Ut:∀ l,l≠i->upd y.ck i ⟨0,0,0,c.sp+1⟩ l=y.ck l:=fun l hl=>Z8 _ _ _ _ hl
  have Ht:upd y.ck i ⟨0,0,0,c.sp+1⟩ i=⟨0,0,0,c.sp+1⟩:=upd_same _ _ _
  have hO:∀ l,l∈O->l≠i:=fun l h e=>EF (by rw[<- e];exact h)
  refine R.put hK hp R.op R.o0 (fun l hl=>?_) R.EJ (fun l hl=>?_) (fun l hlk hl=>?_) (fun l hlk hl=>?_) ?_ (by show _+1<=_+0;omega) (by rw[hp];exact Nat.le_refl _) (fun τ1 e=>by injection e with e;subst e;trivial) (fun _ h=>h) (fun l hl=>?_) (fun _ h=>h) (fun l=>?_) (fun K' τ1 l hne hp' hm hl=>⟨Ut l (fun e=>?_),hl⟩) (fun τ1 l e hm=>by injection e with e;subst e;exact hm.elim)
  . obtain⟨b1,b2,b3,b4⟩:=R.o1 l hl
    refine⟨b1,?_,b3,?_⟩
    . show (upd y.ck i _ l).st=1;rw[Ut l (hO l hl)];exact b2
    . show (upd y.ck i _ l).cl=0;rw[Ut l (hO l hl)];exact b4
  . show m<(upd y.ck i _ l).us+3
    rw[Ut l (hO l (List.mem_of_mem_tail hl))];exact R.full l hl
  . have hne:l≠i:=fun e=>by rw[e,hti] at hl;cases hl
    show (upd y.ck i _ l).st=0
    rw[Ut l hne];exact R.fr l hlk hl
  . have hl':(upd y.ck i ⟨0,0,0,c.sp+1⟩ l).st=0:=hl
    show (upd y.ck i _ l).us=0
    by_cases e:l=i
    . rw[e,Ht]
    . rw[Ut l e] at hl' ⊢;exact R.zu l hlk hl'
  . have h1:=YO (f:=fun l=>(y.ck l).us) (g:=fun l=>(upd y.ck i ⟨0,0,0,c.sp+1⟩ l).us) hik (fun l _ hl=>by rw[Ut l hl])
    simp only[Ht,hc,c3] at h1
    have:=R.us
    show tot (fun l=>(upd y.ck i ⟨0,0,0,c.sp+1⟩ l).us) k=_
    omega
  . show (y.ck l).us<=(upd y.ck i _ l).us
    rw[Ut l (hO l hl)];exact Nat.le_refl _
  . by_cases e:l=i
    . exact Or.inl (by rw[e];exact hti)
    . exact Or.inr (Ut l e)
  . rw[e] at hm
    exact R.sep K K' _ τ1 i (Ne.symm hne) hp hp' rfl hm
end
end Go.Proofs.YtibmjlefcaonnaaGreat
