import Derived.Test.YtpbghmeikcphnaaGreatLstNext
namespace Go.Proofs.YtpbghmeikcphnaaGreat
open Go.RowKit
section
theorem Oc {f:Nat->Nat} {k:Nat} (h:∀ i,i<k->f i=1):tot f k=k:=by
 induction k with
 | zero=>rfl
 | succ k ih=>show tot f k+f k=k+1;rw[ih (fun i hi=>h i (by omega)),h k (by omega)]
theorem Qx {c k:Nat}:∀ (L:List Nat) (f:Nat->Nat),L.Nodup->(∀ i,i∈L->i<k/\c<=f i)->L.length * c<=tot f k:=by
 intro L
 induction L with
 | nil=>intro f _ _;simp
 | cons a L ih =>
  intro f nd h
  obtain⟨ha,nd⟩:=List.nodup_cons.1 nd
  obtain⟨a1,a2⟩:=h a (by simp)
  have h1:=Y1 (f:=f) (g:=upd f a 0) a1 (fun i _ hi=>Z9 _ _ _ _ hi)
  rw[upd_same] at h1
  have h2:=ih (upd f a 0) nd (fun i hi=>by
   rw[Z9 _ _ _ _ (fun e=>ha (by rw[<- e];exact hi))]
   exact h i (List.mem_cons_of_mem _ hi))
  rw[List.length_cons,Nat.succ_mul]
  omega
def Pl.hold:Pl->Nat
 | .opn _ _ _=>1
 | .V4 _ _ _=>1
 | _=>0
def Pl.stale (op:Nat):Pl->Nat
 | .ask i=>if i+1=op then 0 else 1
 | .look sn _=>if sn=op then 0 else 1
 | .take sn _ _=>if sn=op then 0 else 1
 | .opn sn _ _=>if sn=op then 0 else 1
 | .V4 _ _ _=>1
 | _=>0
def X5:Option Pl->Nat
 | none=>0
 | some τ=>τ.hold
def YJ (op:Nat):Option Pl->Nat
 | none=>0
 | some τ=>τ.stale op
theorem UH (o:Option Pl):X5 o<=1:=by
 cases o with
 | none=>exact Nat.zero_le _
 | some τ=>show τ.hold<=1;cases τ <;> simp[Pl.hold]
theorem CE (op:Nat) (o:Option Pl):YJ op o<=1:=by
 cases o with
 | none=>exact Nat.zero_le _
 | some τ =>
  show τ.stale op<=1
  cases τ <;> simp only[Pl.stale] <;> first | decide | (split <;> decide)
def yl:List Nat->Nat
 | []=>0
 | i :: _=>i+1
def Jd (m:Nat) (y:Y) (O:List Nat) (sn:Nat):Prop:=sn=0\/∃ i,sn=i+1/\i∈O/\m<(y.ck i).us+3
def Lt (k m:Nat) (y:Y) (tk:Nat->Bool) (O:List Nat):Pl->Prop
 | .ask i=>i∈O
 | .grow i c=>i∈O/\c.st=1/\c.cl=0
 | .look sn i=>Jd m y O sn/\(∀ l,l<i->tk l=true)/\i<k
 | .take sn i c=>Jd m y O sn/\(∀ l,l<i->tk l=true)/\(tk i=true\/y.ck i=c)/\i<k/\c.st=0
 | .opn sn i c=>Jd m y O sn/\y.ck i=c/\i∉O/\tk i=true/\i<k/\c.st=1/\c.cl=0/\c.us=0
 | .V4 _ i c=>y.ck i=c/\i∉O/\tk i=true/\i<k/\c.st=1/\c.us=0
 | _=>True
def Pl.mine (i:Nat):Pl->Prop
 | .opn _ l _=>l=i
 | .V4 _ l _=>l=i
 | _=>False
structure Rm (N k m:Nat) (y:Y) (pl:Nat->Option Pl) (J:Nat) (tk:Nat->Bool) (O:List Nat) (Fl:Nat):Prop where
 op:y.op 0=yl O
 o1:∀ i,i∈O->i<k/\(y.ck i).st=1/\tk i=true/\(y.ck i).cl=0
 BP:O.Nodup
 full:∀ i,i∈O.tail->m<(y.ck i).us+3
 fr:∀ i,i<k->tk i=false->(y.ck i).st=0
 zu:∀ i,i<k->(y.ck i).st=0->(y.ck i).us=0
 us:tot (fun i=>(y.ck i).us) k=3 * J
 cnt:tot (fun i=>if tk i then 1 else 0) k<=O.length+Fl+tot (fun K=>X5 (pl K)) N
 qo:Fl+tot (fun K=>YJ (y.op 0) (pl K)) N<=(N - 1) * (O.length - 1)
 th:∀ K τ,pl K=some τ->Lt k m y tk O τ
 o0:O≠[]
 sep:∀ K K' τ τ' i,K≠K'->pl K=some τ->pl K'=some τ'->τ.mine i->¬ τ'.mine i
section
variable {N k m J Fl K:Nat} {y y':Y} {pl:Nat->Option Pl} {tk:Nat->Bool} {O:List Nat} {τ τ':Pl} {bs:Nat->Nat}
theorem Jd.keep {O':List Nat} {sn:Nat} (s:Jd m y O sn) (hO:∀ i,i∈O->i∈O') (hu:∀ i,i∈O->(y.ck i).us<=(y'.ck i).us):Jd m y' O' sn:=by
 rcases s with s | ⟨i,e,h1,h2⟩
 . exact Or.inl s
 . exact Or.inr ⟨i,e,hO i h1,by have:=hu i h1;omega⟩
theorem Lt.keep {Rt:Nat->Bool} {O':List Nat} (P:Lt k m y tk O τ) (hO:∀ i,i∈O->i∈O') (hu:∀ i,i∈O->(y.ck i).us<=(y'.ck i).us) (ht:∀ i,tk i=true->Rt i=true) (hc:∀ i,Rt i=true\/y'.ck i=y.ck i) (hm:∀ i,τ.mine i->i∉O->y'.ck i=y.ck i/\i∉O'):Lt k m y' Rt O' τ:=by
 cases τ with
 | ask i=>exact hO i P
 | grow i c=>exact⟨hO i P.1,P.2⟩
 | look sn i=>exact⟨P.1.keep hO hu,fun l hl=>ht l (P.2.1 l hl),P.2.2⟩
 | take sn i c =>
  refine⟨P.1.keep hO hu,fun l hl=>ht l (P.2.1 l hl),?_,P.2.2.2⟩
  rcases P.2.2.1 with h | h
  . exact Or.inl (ht i h)
  . rcases hc i with h' | h'
    . exact Or.inl h'
    . exact Or.inr (h'.trans h)
 | opn sn i c =>
  obtain⟨a1,a2⟩:=hm i rfl P.2.2.1
  exact⟨P.1.keep hO hu,a1.trans P.2.1,a2,ht i P.2.2.2.1,P.2.2.2.2⟩
 | V4 sn i c =>
  obtain⟨a1,a2⟩:=hm i rfl P.2.1
  exact⟨a1.trans P.1,a2,ht i P.2.2.1,P.2.2.2⟩
 | see=>trivial
 | Yx a i=>trivial
 | none=>trivial
theorem Rm.count (R:Rm N 12 40 y pl J tk O Fl) {z:Nat} (hz:tot (fun K=>X5 (pl K)) N<=z) (hJ:3 * J<(O.length - 1) * 38\/O.length+Fl+z<=11):∃ i,i<12/\tk i=false:=by
 refine Classical.byContradiction fun hno=>?_
 have hall:∀ i,i<12->tk i=true:=fun i hi=>by
  cases h:tk i with
  | true=>rfl
  | false=>exact absurd ⟨i,hi,h⟩ hno
 have h1:tot (fun i=>if tk i then 1 else 0) 12=12:=Oc (fun i hi=>by simp[hall i hi])
 have h3:O.tail.length * 38<=tot (fun i=>(y.ck i).us) 12:=Qx O.tail _ (R.BP.sublist (List.tail_sublist O)) (fun i hi=>⟨(R.o1 i (List.mem_of_mem_tail hi)).1,by have:=R.full i hi;omega⟩)
 have h4:=R.cnt
 have h6:=R.us
 rw[List.length_tail] at h3
 rcases hJ with hJ | hJ <;> omega
theorem Rm.Dc (R:Rm 3 12 40 y pl J tk O Fl) (hJ:J<=31):∃ i,i<12/\tk i=false:=by
 have h2:tot (fun K=>X5 (pl K)) 3<=3:=XA (fun K _=>UH _)
 have h5:=R.qo
 by_cases h:O.length<=3
 . exact R.count h2 (Or.inr (by omega))
 . exact R.count h2 (Or.inl (by omega))
theorem Rm.UK (R:Rm 4 12 40 y pl J tk O Fl) (hJ:J<=12):∃ i,i<12/\tk i=false:=by
 have h2:tot (fun K=>X5 (pl K)) 4<=4:=XA (fun K _=>UH _)
 have h5:=R.qo
 by_cases h:O.length<=1
 . exact R.count h2 (Or.inr (by omega))
 . exact R.count h2 (Or.inl (by omega))
theorem Rm.Si (R:Rm 4 12 40 y pl J tk O 0) {K:Nat} (ha:∀ K',K'≠K->pl K'=none) (hJ:J<=110):∃ i,i<12/\tk i=false:=by
 have h2:tot (fun K=>X5 (pl K)) 4<=1:=by
  have e:∀ K',K'≠K->X5 (pl K')=0:=fun K' h=>by rw[ha K' h];rfl
  have b0:=UH (pl 0)
  have b1:=UH (pl 1)
  have b2:=UH (pl 2)
  have b3:=UH (pl 3)
  show 0+X5 (pl 0)+X5 (pl 1)+X5 (pl 2)+X5 (pl 3)<=1
  by_cases k0:0=K
  . rw[e 1 (by omega),e 2 (by omega),e 3 (by omega)];omega
  . rw[e 0 k0]
    by_cases k1:1=K
    . rw[e 2 (by omega),e 3 (by omega)];omega
    . rw[e 1 k1]
      by_cases k2:2=K
      . rw[e 3 (by omega)];omega
      . rw[e 2 k2];omega
 by_cases h:O.length<=10
 . exact R.count h2 (Or.inr (by omega))
 . exact R.count h2 (Or.inl (by omega))
theorem Rm.put (R:Rm N k m y pl J tk O Fl) (hK:K<N) (hp:pl K=some τ) {o:Option Pl} {J' Fl':Nat} {Rt:Nat->Bool} {O':List Nat}
 (op:y'.op 0=yl O') (o0:O'≠[]) (o1:∀ i,i∈O'->i<k/\(y'.ck i).st=1/\Rt i=true/\(y'.ck i).cl=0) (BP:O'.Nodup) (full:∀ i,i∈O'.tail->m<(y'.ck i).us+3) (fr:∀ i,i<k->Rt i=false->(y'.ck i).st=0) (zu:∀ i,i<k->(y'.ck i).st=0->(y'.ck i).us=0) (us:tot (fun i=>(y'.ck i).us) k=3 * J')
 (cnt:tot (fun i=>if Rt i then 1 else 0) k+O.length+Fl+τ.hold<=tot (fun i=>if tk i then 1 else 0) k+O'.length+Fl'+X5 o)
 (qo:Fl'+YJ (y'.op 0) o+tot (fun K=>YJ (y'.op 0) (pl K)) N+(N - 1) * (O.length - 1)<=Fl+YJ (y'.op 0) (pl K)+tot (fun K=>YJ (y.op 0) (pl K)) N+(N - 1) * (O'.length - 1))
 (th:∀ τ1,o=some τ1->Lt k m y' Rt O' τ1) (hO:∀ i,i∈O->i∈O') (hu:∀ i,i∈O->(y.ck i).us<=(y'.ck i).us) (ht:∀ i,tk i=true->Rt i=true) (hc:∀ i,Rt i=true\/y'.ck i=y.ck i) (hm:∀ K' τ1 i,K'≠K->pl K'=some τ1->τ1.mine i->i∉O->y'.ck i=y.ck i/\i∉O') (hs:∀ τ1 i,o=some τ1->τ1.mine i->∀ K' τ2,K'≠K->pl K'=some τ2->¬ τ2.mine i):Rm N k m y' (upd pl K o) J' Rt O' Fl':=by
 refine⟨op,o1,BP,full,fr,zu,us,?_,?_,fun K' τ1 e=>?_,o0,fun K1 K2 τ1 τ2 i hne e1 e2 m1=>?_⟩
 . have h1:=Y1 (f:=fun K=>X5 (pl K)) (g:=fun K'=>X5 (upd pl K o K')) hK (fun i _ hi=>by rw[Z9 _ _ _ _ hi])
   simp only[upd_same,hp] at h1
   have h2:=R.cnt
   have h3:X5 (some τ)=τ.hold:=rfl
   omega
 . have h1:=Y1 (f:=fun K=>YJ (y'.op 0) (pl K)) (g:=fun K'=>YJ (y'.op 0) (upd pl K o K')) hK (fun i _ hi=>by rw[Z9 _ _ _ _ hi])
   simp only[upd_same] at h1
   have h2:=R.qo
   omega
 . by_cases e':K'=K
   . rw[e',upd_same] at e;exact th τ1 e
   . rw[Z9 _ _ _ _ e'] at e
     exact(R.th K' τ1 e).keep hO hu ht hc (fun i h1 h2=>hm K' τ1 i e' e h1 h2)
 . by_cases c1:K1=K
   . rw[c1,upd_same] at e1
     have c2:K2≠K:=fun c2=>hne (by rw[c1,c2])
     rw[Z9 _ _ _ _ c2] at e2
     exact hs τ1 i e1 m1 K2 τ2 c2 e2
   . rw[Z9 _ _ _ _ c1] at e1
     by_cases c2:K2=K
     . rw[c2,upd_same] at e2
       exact fun m2=>hs τ2 i e2 m2 K1 τ1 c1 e1 m1
     . rw[Z9 _ _ _ _ c2] at e2
       exact R.sep K1 K2 τ1 τ2 i hne e1 e2 m1
theorem Rm.look (R:Rm N k m y pl J tk O Fl) (hK:K<N) (hp:pl K=some τ) (hold:τ.hold=0) (hold':τ'.hold=0) (hs:τ'.stale (y.op 0)<=τ.stale (y.op 0)) (P:Lt k m y tk O τ'):Rm N k m y (upd pl K (some τ')) J tk O Fl:=by
 have nm:∀ i,¬ τ'.mine i:=fun i h=>by cases τ' <;> first | exact h | cases hold'
 refine R.put hK hp R.op R.o0 R.o1 R.BP R.full R.fr R.zu R.us (by rw[hold];omega) (by rw[hp];show Fl+τ'.stale _+_+_<=Fl+τ.stale _+_+_;omega) (fun τ1 e=>by injection e with e;subst e;exact P) (fun _ h=>h) (fun _ _=>Nat.le_refl _) (fun _ h=>h) (fun _=>Or.inr rfl) (fun _ _ _ _ _ _ h=>⟨rfl,h⟩) (fun τ1 i e h=>by injection e with e;subst e;exact absurd h (nm i))
theorem Xn (k op sn i:Nat):(VG k sn i).stale op<=(if sn=op then 0 else 1)/\(VG k sn i).hold=0:=by
 unfold VG
 split
 . exact⟨Nat.le_refl _,rfl⟩
 . exact⟨Nat.zero_le _,rfl⟩
theorem Jc {sn i:Nat} (s:Jd m y O sn) (h:∀ l,l<i->tk l=true):Lt k m y tk O (VG k sn i):=by
 unfold VG
 split
 . exact⟨s,h,by assumption⟩
 . trivial
theorem Qg {sn i:Nat} (h:∀ l,l<i->tk l=true) (e:VG k sn i=.none):∀ l,l<k->tk l=true:=by
 unfold VG at e
 split at e
 . cases e
 . exact fun l hl=>h l (by omega)
theorem Rm.step (R:Rm N k m y pl J tk O Fl) (hK:K<N) (hp:pl K=some τ) (ho:τ.over=false) (e:turn k m 0 bs y τ=(y',τ')) :
 (τ'=.none->∀ l,l<k->tk l=true)/\(∀ a i,τ'=.Yx a i->Rm N k m y' (upd pl K none) (J+1) tk O Fl)/\(τ'.over=false->∃ Rt O' Fl',Rm N k m y' (upd pl K (some τ')) J Rt O' Fl'/\((∀ sn i c,τ≠.V4 sn i c)->Fl'=Fl)):=by
 have P:=R.th K τ hp
 have look:∀ {τ1:Pl},τ.hold=0->τ1.hold=0->τ1.stale (y.op 0)<=τ.stale (y.op 0)->Lt k m y tk O τ1->((τ1=.none->∀ l,l<k->tk l=true))->(∀ a i,τ1≠.Yx a i)->(τ1=.none->∀ l,l<k->tk l=true)/\(∀ a i,τ1=.Yx a i->Rm N k m y (upd pl K none) (J+1) tk O Fl)/\(τ1.over=false->∃ Rt O' Fl',Rm N k m y (upd pl K (some τ1)) J Rt O' Fl'/\((∀ sn i c,τ≠.V4 sn i c)->Fl'=Fl)):=fun h1 h2 h3 h4 h5 h6 =>
  ⟨h5,fun a i e=>absurd e (h6 a i),fun _=>⟨tk,O,Fl,R.look hK hp h1 h2 h3 h4,fun _=>rfl⟩⟩
 have uX:∀ sn i a l,VG k sn i≠.Yx a l:=fun sn i a l e=>by unfold VG at e;split at e <;> cases e
 cases τ with
 | Yx a i=>cases ho
 | none=>cases ho
 | see =>
  have hop:=R.op
  cases hO:O with
  | nil=>exact absurd hO R.o0
  | cons i O' =>
   have h1:y.op 0=i+1:=by rw[hop,hO];rfl
   simp only[turn,h1] at e
   obtain⟨rfl,rfl⟩:=Prod.mk.inj e
   rw[<- hO]
   exact look rfl rfl (by simp[Pl.stale,h1]) (by show i∈O;rw[hO];simp) (fun e=>by cases e) (fun a i e=>by cases e)
 | ask i =>
  have hi:i∈O:=P
  obtain⟨a1,a2,a3,a4⟩:=R.o1 i hi
  simp only[turn] at e
  by_cases hr:(y.ck i).us+room 0<=m
  . rw[if_pos ⟨a2,a4,hr⟩] at e
    obtain⟨rfl,rfl⟩:=Prod.mk.inj e
    exact look rfl rfl (Nat.zero_le _) ⟨hi,a2,a4⟩ (fun e=>by cases e) (fun a i e=>by cases e)
  . rw[if_neg (fun h=>hr h.2.2)] at e
    obtain⟨rfl,rfl⟩:=Prod.mk.inj e
    have hr':m<(y.ck i).us+3:=by have:room 0=3:=rfl;omega
    exact look rfl (Xn _ 0 _ _).2 (Xn k (y.op 0) (i+1) 0).1 (Jc (Or.inr ⟨i,rfl,hi,hr'⟩) (fun l hl=>by omega)) (Qg (fun l hl=>by omega)) (uX _ _)
 | look sn i =>
  obtain⟨s,hl,hik⟩:=P
  simp only[turn] at e
  by_cases h0:(y.ck i).st=0
  . rw[if_pos h0] at e
    obtain⟨rfl,rfl⟩:=Prod.mk.inj e
    exact look rfl rfl (Nat.le_refl _) ⟨s,hl,Or.inr rfl,hik,h0⟩ (fun e=>by cases e) (fun a i e=>by cases e)
  . rw[if_neg h0] at e
    obtain⟨rfl,rfl⟩:=Prod.mk.inj e
    have hl':∀ l,l<i+1->tk l=true:=fun l hl'=>by
     by_cases e:l=i
     . rw[e]
       cases ht:tk i with
       | true=>rfl
       | false=>exact absurd (R.fr i hik ht) h0
     . exact hl l (by omega)
    exact look rfl (Xn _ 0 _ _).2 (Xn k (y.op 0) sn (i+1)).1 (Jc s hl') (Qg hl') (uX _ _)
 | grow i c =>
  obtain⟨hi,c1,c0⟩:=P
  obtain⟨a1,a2,a3,a4⟩:=R.o1 i hi
  simp only[turn] at e
  by_cases hc:y.ck i=c
  . rw[if_pos hc] at e
    obtain⟨rfl,rfl⟩:=Prod.mk.inj e
    refine⟨(fun e=>by cases e),fun a i' e=>?_,(fun e=>by cases e)⟩
    have TC:∀ l,l≠i->upd y.ck i ⟨c.st,c.cl,c.us+room 0,c.sp⟩ l=y.ck l:=fun l hl=>Z9 _ _ _ _ hl
    have EN:upd y.ck i ⟨c.st,c.cl,c.us+room 0,c.sp⟩ i=⟨c.st,c.cl,c.us+3,c.sp⟩:=upd_same _ _ _
    have hle:∀ l,(y.ck l).us<=(upd y.ck i ⟨c.st,c.cl,c.us+room 0,c.sp⟩ l).us:=fun l=>by
     by_cases e:l=i
     . rw[e,EN,hc];exact Nat.le_add_right _ _
     . rw[TC l e];exact Nat.le_refl _
    refine R.put hK hp R.op R.o0 (fun l hl=>?_) R.BP (fun l hl=>Nat.lt_of_lt_of_le (R.full l hl) (by have:=hle l;show _<=(upd y.ck i _ l).us+3;omega)) (fun l hlk hl=>?_) (fun l hlk hl=>?_) ?_ (by show _+0<=_+0;omega) (by rw[hp];show Fl+0+_+_<=Fl+0+_+_;exact Nat.le_refl _) (fun τ1 e=>by cases e) (fun _ h=>h) (fun l _=>hle l) (fun _ h=>h) (fun l=>?_) (fun K' τ1 l hne hp' hm hl=>⟨TC l (fun e=>hl (by rw[e];exact hi)),hl⟩) (fun τ1 l e=>by cases e)
    . obtain⟨b1,b2,b3,b4⟩:=R.o1 l hl
      by_cases e:l=i
      . refine⟨b1,?_,b3,?_⟩
        . show (upd y.ck i _ l).st=1;rw[e,EN];exact c1
        . show (upd y.ck i _ l).cl=0;rw[e,EN];exact c0
      . refine⟨b1,?_,b3,?_⟩
        . show (upd y.ck i _ l).st=1;rw[TC l e];exact b2
        . show (upd y.ck i _ l).cl=0;rw[TC l e];exact b4
    . have:l≠i:=fun e=>by rw[e,a3] at hl;cases hl
      show (upd y.ck i _ l).st=0
      rw[TC l this];exact R.fr l hlk hl
    . have hl':(upd y.ck i ⟨c.st,c.cl,c.us+room 0,c.sp⟩ l).st=0:=hl
      by_cases e:l=i
      . rw[e,EN] at hl'
        have uV:c.st=0:=hl'
        omega
      . show (upd y.ck i _ l).us=0
        rw[TC l e] at hl' ⊢;exact R.zu l hlk hl'
    . have h1:=Y1 (f:=fun l=>(y.ck l).us) (g:=fun l=>(upd y.ck i ⟨c.st,c.cl,c.us+room 0,c.sp⟩ l).us) a1 (fun l _ hl=>by rw[TC l hl])
      simp only[EN,hc] at h1
      have:=R.us
      show tot (fun l=>(upd y.ck i ⟨c.st,c.cl,c.us+room 0,c.sp⟩ l).us) k=_
      omega
    . by_cases e:l=i
      . exact Or.inl (by rw[e];exact a3)
      . exact Or.inr (TC l e)
  . rw[if_neg hc] at e
    obtain⟨rfl,rfl⟩:=Prod.mk.inj e
    exact look rfl rfl (Nat.zero_le _) trivial (fun e=>by cases e) (fun a i e=>by cases e)
 | take sn i c =>
  obtain⟨s,hl,htk,hik,c0⟩:=P
  simp only[turn] at e
  by_cases hc:y.ck i=c
  . rw[if_pos hc] at e
    obtain⟨rfl,rfl⟩:=Prod.mk.inj e
    have hst:(y.ck i).st=0:=by rw[hc];exact c0
    have hus:=R.zu i hik hst
    have BL:i∉O:=fun h=>by have:=(R.o1 i h).2.1;omega
    have TC:∀ l,l≠i->upd y.ck i ⟨1,0,0,c.sp+1⟩ l=y.ck l:=fun l hl=>Z9 _ _ _ _ hl
    have EN:upd y.ck i ⟨1,0,0,c.sp+1⟩ i=⟨1,0,0,c.sp+1⟩:=upd_same _ _ _
    have yj:∀ K' τ1,pl K'=some τ1->¬ τ1.mine i:=fun K' τ1 hp' hm=>by
     have P':=R.th K' τ1 hp'
     cases τ1 with
     | opn nY l c' =>
      obtain rfl:l=i:=hm
      have:=P'.2.2.2.2.2.1
      rw[<- P'.2.1] at this;omega
     | V4 nY l c' =>
      obtain rfl:l=i:=hm
      have:=P'.2.2.2.2.1
      rw[<- P'.1] at this;omega
     | _=>exact hm
    refine⟨(fun e=>by cases e),(fun a i' e=>by cases e),fun _=>⟨upd tk i true,O,Fl,?_,fun _=>rfl⟩⟩
    refine R.put hK hp R.op R.o0 (fun l hl'=>?_) R.BP (fun l hl'=>?_) (fun l hlk hl'=>?_) (fun l hlk hl'=>?_) ?_ ?_ (by rw[hp];exact Nat.le_refl _) (fun τ1 e=>?_) (fun _ h=>h) (fun l hl'=>?_) (fun l h=>?_) (fun l=>?_) (fun K' τ1 l hne hp' hm hl'=>⟨TC l (fun e=>yj K' τ1 hp' (by rw[<- e];exact hm)),hl'⟩) (fun τ1 l e hm K' τ2 hne hp'=>?_)
    . have hne:l≠i:=fun e=>BL (by rw[<- e];exact hl')
      obtain⟨b1,b2,b3,b4⟩:=R.o1 l hl'
      refine⟨b1,?_,?_,?_⟩
      . show (upd y.ck i _ l).st=1;rw[TC l hne];exact b2
      . rw[Z9 _ _ _ _ hne];exact b3
      . show (upd y.ck i _ l).cl=0;rw[TC l hne];exact b4
    . have hne:l≠i:=fun e=>BL (by rw[<- e];exact List.mem_of_mem_tail hl')
      show m<(upd y.ck i _ l).us+3
      rw[TC l hne];exact R.full l hl'
    . have hne:l≠i:=fun e=>by rw[e,upd_same] at hl';cases hl'
      rw[Z9 _ _ _ _ hne] at hl'
      show (upd y.ck i _ l).st=0
      rw[TC l hne];exact R.fr l hlk hl'
    . have uV:(upd y.ck i ⟨1,0,0,c.sp+1⟩ l).st=0:=hl'
      show (upd y.ck i _ l).us=0
      by_cases e:l=i
      . rw[e,EN]
      . rw[TC l e] at uV ⊢;exact R.zu l hlk uV
    . have h1:=Y1 (f:=fun l=>(y.ck l).us) (g:=fun l=>(upd y.ck i ⟨1,0,0,c.sp+1⟩ l).us) hik (fun l _ hl=>by rw[TC l hl])
      simp only[EN] at h1
      have:=R.us
      show tot (fun l=>(upd y.ck i ⟨1,0,0,c.sp+1⟩ l).us) k=_
      omega
    . have h1:=Y1 (f:=fun l=>if tk l then 1 else 0) (g:=fun l=>if upd tk i true l then 1 else 0) hik (fun l _ hl=>by rw[Z9 _ _ _ _ hl])
      simp only[upd_same,if_true] at h1
      show _+0<=_+1
      omega
    . injection e with e
      subst e
      exact⟨s.keep (fun _ h=>h) (fun l hl'=>by show (y.ck l).us<=(upd y.ck i _ l).us;rw[TC l (fun e=>BL (by rw[<- e];exact hl'))];exact Nat.le_refl _),EN,BL,upd_same _ _ _,hik,rfl,rfl,rfl⟩
    . show (y.ck l).us<=(upd y.ck i _ l).us
      rw[TC l (fun e=>BL (by rw[<- e];exact hl'))];exact Nat.le_refl _
    . by_cases e:l=i
      . rw[e,upd_same]
      . rw[Z9 _ _ _ _ e];exact h
    . by_cases e:l=i
      . exact Or.inl (by rw[e,upd_same])
      . exact Or.inr (TC l e)
    . injection e with e
      subst e
      obtain rfl:i=l:=hm
      exact yj K' τ2 hp'
  . rw[if_neg hc] at e
    obtain⟨rfl,rfl⟩:=Prod.mk.inj e
    have hti:tk i=true:=htk.resolve_right hc
    have hl':∀ l,l<i+1->tk l=true:=fun l hl'=>by
     by_cases e:l=i
     . rw[e];exact hti
     . exact hl l (by omega)
    exact look rfl (Xn _ 0 _ _).2 (Xn k (y.op 0) sn (i+1)).1 (Jc s hl') (Qg hl') (uX _ _)
 | opn sn i c =>
  obtain⟨s,hc,BL,hti,hik,c1,c2,c3⟩:=P
  simp only[turn] at e
  by_cases hop:y.op 0=sn
  . rw[if_pos hop] at e
    obtain⟨rfl,rfl⟩:=Prod.mk.inj e
    refine⟨(fun e=>by cases e),(fun a i' e=>by cases e),fun _=>⟨tk,i :: O,Fl,?_,fun _=>rfl⟩⟩
    have hop':(upd y.op 0 (i+1)) 0=i+1:=upd_same _ _ _
    have hlen:1<=O.length:=by
     cases hO:O with
     | nil=>exact absurd hO R.o0
     | cons a b=>simp
    refine R.put hK hp hop' (by simp) (fun l hl=>?_) (List.nodup_cons.2 ⟨BL,R.BP⟩) (fun l hl=>?_) R.fr R.zu R.us (by show _+1<=_+(O.length+1)+_+0;omega) ?_ (fun τ1 e=>by injection e with e;subst e;trivial) (fun l h=>List.mem_cons_of_mem _ h) (fun _ _=>Nat.le_refl _) (fun _ h=>h) (fun _=>Or.inr rfl) (fun K' τ1 l hne hp' hm hl=>⟨rfl,fun h=>?_⟩) (fun τ1 l e hm=>by injection e with e;subst e;exact hm.elim)
    . rcases List.mem_cons.1 hl with e | e
      . rw[e];exact⟨hik,by show (y.ck i).st=1;rw[hc];exact c1,hti,by show (y.ck i).cl=0;rw[hc];exact c2⟩
      . exact R.o1 l e
    . have hl':l∈O:=hl
      have hh:=R.op
      cases hO:O with
      | nil=>exact absurd hO R.o0
      | cons a b =>
       rw[hO] at hl' hh
       rcases List.mem_cons.1 hl' with e | e
       . rcases s with s | ⟨i0,e0,-,hf⟩
         . rw[s] at hop;rw[hop] at hh;cases hh
         . rw[<- hop,hh] at e0
           have:i0=a:=by have e1:a+1=i0+1:=e0;omega
           rw[e,<- this];exact hf
       . exact R.full l (by rw[hO];exact e)
    . show Fl+0+tot (fun K=>YJ (upd y.op 0 (i+1) 0) (pl K)) N+(N - 1) * (O.length - 1)<=Fl+YJ (upd y.op 0 (i+1) 0) (pl K)+tot (fun K=>YJ (y.op 0) (pl K)) N+(N - 1) * (O.length+1 - 1)
      have h1:=Y1 (f:=fun K=>YJ (upd y.op 0 (i+1) 0) (pl K)) (g:=fun K'=>if K'=K then 0 else YJ (upd y.op 0 (i+1) 0) (pl K')) hK (fun l _ hl=>by simp only[hl,if_false])
      simp only[if_true] at h1
      have h2:tot (fun K'=>if K'=K then 0 else YJ (upd y.op 0 (i+1) 0) (pl K')) N+1<=N:=by
       have g1:=Y1 (f:=fun K'=>if K'=K then 0 else YJ (upd y.op 0 (i+1) 0) (pl K')) (g:=fun K'=>if K'=K then 1 else YJ (upd y.op 0 (i+1) 0) (pl K')) hK (fun l _ hl=>by simp only[hl,if_false])
       simp only[if_true] at g1
       have g2:=XA (f:=fun K'=>if K'=K then 1 else YJ (upd y.op 0 (i+1) 0) (pl K')) (J:=N) (fun l _=>by show (if l=K then 1 else _)<=1;split <;> first | exact Nat.le_refl _ | exact CE _ _)
       omega
      obtain⟨x,hx⟩:∃ x,O.length=x+1:=⟨O.length - 1,by omega⟩
      rw[hx,Nat.add_sub_cancel,Nat.add_sub_cancel,Nat.mul_succ]
      omega
    . rcases List.mem_cons.1 h with e | e
      . rw[e] at hm
        exact R.sep K K' _ τ1 i (Ne.symm hne) hp hp' rfl hm
      . exact hl e
  . rw[if_neg hop] at e
    obtain⟨rfl,rfl⟩:=Prod.mk.inj e
    refine⟨(fun e=>by cases e),(fun a i' e=>by cases e),fun _=>⟨tk,O,Fl,?_,fun _=>rfl⟩⟩
    refine R.put hK hp R.op R.o0 R.o1 R.BP R.full R.fr R.zu R.us (Nat.le_refl _) ?_ (fun τ1 e=>by injection e with e;subst e;exact⟨hc,BL,hti,hik,c1,c3⟩) (fun _ h=>h) (fun _ _=>Nat.le_refl _) (fun _ h=>h) (fun _=>Or.inr rfl) (fun _ _ _ _ _ _ h=>⟨rfl,h⟩) (fun τ1 l e hm K' τ2 hne hp'=>?_)
    . rw[hp]
      show Fl+1+_+_<=Fl+(if sn=y.op 0 then 0 else 1)+_+_
      rw[if_neg (Ne.symm hop)];exact Nat.le_refl _
    . injection e with e
      subst e
      exact R.sep K K' _ τ2 l (Ne.symm hne) hp hp' hm
 | V4 sn i c =>
  obtain⟨hc,BL,hti,hik,c1,c3⟩:=P
  simp only[turn] at e
  rw[if_pos hc] at e
  obtain⟨rfl,rfl⟩:=Prod.mk.inj e
  refine⟨(fun e=>by cases e),(fun a i' e=>by cases e),fun _=>⟨tk,O,Fl+1,?_,fun h=>absurd rfl (h _ _ _)⟩⟩
  have TC:∀ l,l≠i->upd y.ck i ⟨0,0,0,c.sp+1⟩ l=y.ck l:=fun l hl=>Z9 _ _ _ _ hl
  have EN:upd y.ck i ⟨0,0,0,c.sp+1⟩ i=⟨0,0,0,c.sp+1⟩:=upd_same _ _ _
  have hO:∀ l,l∈O->l≠i:=fun l h e=>BL (by rw[<- e];exact h)
  refine R.put hK hp R.op R.o0 (fun l hl=>?_) R.BP (fun l hl=>?_) (fun l hlk hl=>?_) (fun l hlk hl=>?_) ?_ (by show _+1<=_+0;omega) (by rw[hp];exact Nat.le_refl _) (fun τ1 e=>by injection e with e;subst e;trivial) (fun _ h=>h) (fun l hl=>?_) (fun _ h=>h) (fun l=>?_) (fun K' τ1 l hne hp' hm hl=>⟨TC l (fun e=>?_),hl⟩) (fun τ1 l e hm=>by injection e with e;subst e;exact hm.elim)
  . obtain⟨b1,b2,b3,b4⟩:=R.o1 l hl
    refine⟨b1,?_,b3,?_⟩
    . show (upd y.ck i _ l).st=1;rw[TC l (hO l hl)];exact b2
    . show (upd y.ck i _ l).cl=0;rw[TC l (hO l hl)];exact b4
  . show m<(upd y.ck i _ l).us+3
    rw[TC l (hO l (List.mem_of_mem_tail hl))];exact R.full l hl
  . have hne:l≠i:=fun e=>by rw[e,hti] at hl;cases hl
    show (upd y.ck i _ l).st=0
    rw[TC l hne];exact R.fr l hlk hl
  . have hl':(upd y.ck i ⟨0,0,0,c.sp+1⟩ l).st=0:=hl
    show (upd y.ck i _ l).us=0
    by_cases e:l=i
    . rw[e,EN]
    . rw[TC l e] at hl' ⊢;exact R.zu l hlk hl'
  . have h1:=Y1 (f:=fun l=>(y.ck l).us) (g:=fun l=>(upd y.ck i ⟨0,0,0,c.sp+1⟩ l).us) hik (fun l _ hl=>by rw[TC l hl])
    simp only[EN,hc,c3] at h1
    have:=R.us
    show tot (fun l=>(upd y.ck i ⟨0,0,0,c.sp+1⟩ l).us) k=_
    omega
  . show (y.ck l).us<=(upd y.ck i _ l).us
    rw[TC l (hO l hl)];exact Nat.le_refl _
  . by_cases e:l=i
    . exact Or.inl (by rw[e];exact hti)
    . exact Or.inr (TC l e)
  . rw[e] at hm
    exact R.sep K K' _ τ1 i (Ne.symm hne) hp hp' rfl hm
end
end
section
theorem L8 {f g:Nat->Nat} {N:Nat} (h:∀ i,i<N->f i<=g i):tot f N<=tot g N:=by
 induction N with
 | zero=>exact Nat.le_refl _
 | succ N ih =>
  have:=ih (fun i hi=>h i (by omega))
  have:=h N (by omega)
  show tot f N+f N<=tot g N+g N
  omega
theorem JF {f g:Nat->Nat} {N a:Nat} (ha:a<N) (h:∀ i,i<N->f i<=g i) (hl:f a<g a):tot f N<tot g N:=by
 have h1:=Y1 (f:=g) (g:=upd g a (f a)) ha (fun i _ hi=>Z9 _ _ _ _ hi)
 rw[upd_same] at h1
 have h2:tot f N<=tot (upd g a (f a)) N:=L8 (fun i hi=>by
  by_cases e:i=a
  . rw[e,upd_same];exact Nat.le_refl _
  . rw[Z9 _ _ _ _ e];exact h i hi)
 omega
@[reducible] def UC (f:Nat->Nat) (a b:Nat):Prop:=f a<f b\/(f a=f b/\a<b)
def TK (f:Nat->Nat) (N i:Nat):Nat:=tot (fun k=>if UC f k i then 1 else 0) N
theorem vI {f:Nat->Nat} {a b c:Nat} (h:UC f a b) (g:UC f b c):UC f a c:=by unfold UC at *;omega
theorem Jy {f:Nat->Nat} {a:Nat}:¬ UC f a a:=by unfold UC;omega
theorem Ih (f:Nat->Nat) (a b:Nat):UC f a b\/a=b\/UC f b a:=by unfold UC;omega
theorem Uf {f:Nat->Nat} {N a b:Nat} (ha:a<N) (h:UC f a b):TK f N a<TK f N b:=by
 refine JF ha (fun i hi=>?_) ?_
 . by_cases e:UC f i a
   . rw[if_pos e,if_pos (vI e h)];exact Nat.le_refl _
   . rw[if_neg e];exact Nat.zero_le _
 . show (if UC f a a then 1 else 0)<(if UC f a b then 1 else 0)
   rw[if_neg Jy,if_pos h];decide
theorem zC {f:Nat->Nat} {N a b:Nat} (ha:a<N) (hb:b<N):TK f N a<TK f N b↔UC f a b:=by
 constructor
 . intro h
   rcases Ih f a b with e | e | e
   . exact e
   . rw[e] at h;omega
   . have:=Uf hb e;omega
 . exact Uf ha
theorem zB {f:Nat->Nat} {N a b:Nat} (ha:a<N) (hb:b<N) (h:TK f N a=TK f N b):a=b:=by
 rcases Ih f a b with e | e | e
 . have:=Uf ha e;omega
 . exact e
 . have:=Uf hb e;omega
theorem qB {f:Nat->Nat} {N a:Nat} (ha:a<N):TK f N a<N:=by
 have:=JF (f:=fun k=>if UC f k a then 1 else 0) (g:=fun _=>1) ha (fun i _=>by
  by_cases e:UC f i a
  . rw[if_pos e];exact Nat.le_refl _
  . rw[if_neg e];exact Nat.zero_le _) (by
  show (if UC f a a then 1 else 0)<1
  rw[if_neg Jy];decide)
 rw[Oc (f:=fun _=>1) (fun _ _=>rfl)] at this
 exact this
theorem wz {f:Nat->Nat} {N n:Nat} (hn:n<N):∃ i,i<N/\TK f N i=n:=by
 refine Classical.byContradiction fun hno=>?_
 have h1:=Qx (c:=1) (k:=N) ((List.range N).map (TK f N)) (fun x=>if x=n then 0 else 1) (by
  refine List.pairwise_map.2 ?_
  refine List.Pairwise.imp_of_mem ?_ List.pairwise_lt_range
  intro a b ha hb hab e
  have:=zB (List.mem_range.1 ha) (List.mem_range.1 hb) e
  omega) (fun x hx=>by
  obtain⟨i,hi,e⟩:=List.mem_map.1 hx
  have hi':=List.mem_range.1 hi
  refine⟨by rw[<- e];exact qB hi',?_⟩
  show 1<=if x=n then 0 else 1
  rw[if_neg (fun e'=>hno ⟨i,hi',e.trans e'⟩)];exact Nat.le_refl _)
 have h2:=Y1 (f:=fun _=>1) (g:=fun x=>if x=n then 0 else 1) hn (fun i _ hi=>by simp[hi])
 rw[Oc (f:=fun _=>1) (fun _ _=>rfl)] at h2
 simp at h1 h2
 omega
structure En where
 kd:Int
 k:Int
 v:Int
 st:Nat
structure Told (σ0 σ:Nat) (u:Hi) (N:Nat) (E:Nat->En):Prop where
 lo:∀ i,i<N->σ0<(E i).st/\(E i).st<=σ
 k0:∀ i,i<N->0<=(E i).k
 kd:∀ i,i<N->(E i).kd=1\/(E i).kd=2\/(E i).kd=3
 ok:∀ i,i<N->((E i).v=1/\(((E i).kd=1/\u.S (E i).st (E i).k/\u.ev (E i).st=none)\/((E i).kd=2/\u.ev (E i).st=some ((E i).k,true))\/((E i).kd=3/\u.ev (E i).st=some ((E i).k,false))))\/((E i).v=0/\u.ev (E i).st=none/\(((E i).kd=2/\u.S (E i).st (E i).k)\/((E i).kd≠2/\¬ u.S (E i).st (E i).k)))
 all:∀ s key b,σ0<s->s<=σ->u.ev s=some (key,b)->∃ i,i<N/\(E i).st=s
 un:∀ i j,i<N->j<N->(E i).st=(E j).st->u.ev (E i).st≠none->i=j
 z:∀ key,0<=key->¬ u.S σ0 key
 e0:∀ s,s<σ->u.ev (s+1)=none->∀ key,0<=key->(u.S (s+1) key↔u.S s key)
 e1:∀ s key b,s<σ->u.ev (s+1)=some (key,b)->(u.S (s+1) key↔b=true)/\(u.S s key↔b=false)/\∀ k',0<=k'->k'≠key->(u.S (s+1) k'↔u.S s k')
section
variable {σ0 σ N:Nat} {u:Hi} {E:Nat->En}
theorem Told.calm (T:Told σ0 σ u N E) {a b:Nat} (hab:a<=b) (hb:b<=σ) (h:∀ s,a<s->s<=b->u.ev s=none):∀ key,0<=key->(u.S b key↔u.S a key):=by
 intro key hk
 induction b with
 | zero=>rw[show a=0 by omega]
 | succ b ih =>
  by_cases e:a=b+1
  . rw[e]
  . rw[T.e0 b (by omega) (h (b+1) (by omega) (Nat.le_refl _)) key hk]
    exact ih (by omega) (by omega) (fun s h1 h2=>h s h1 (by omega))
def oL (N:Nat) (u:Hi) (E:Nat->En) (n:Nat) (Td:Int->Prop):Prop:=∀ i,i<N->TK (fun j=>(E j).st) N i=n->∀ key,0<=key->(Td key↔u.S ((E i).st - 1) key)
theorem Told.first (T:Told σ0 σ u N E):oL N u E 0 (fun _=>False):=by
 intro i hi e key hk
 have hl:=T.lo i hi
 rw[T.calm (a:=σ0) (b:=(E i).st - 1) (by omega) (by omega) (fun s h1 h2=>?_) key hk]
 . exact⟨False.elim,fun h=>absurd h (T.z key hk)⟩
 . cases hev:u.ev s with
   | none=>rfl
   | some kb =>
    obtain⟨j,hj,es⟩:=T.all s kb.1 kb.2 h1 (by omega) hev
    have:=Uf (f:=fun j=>(E j).st) (N:=N) (a:=j) (b:=i) hj (Or.inl (by show (E j).st<(E i).st;omega))
    omega
theorem Told.next (T:Told σ0 σ u N E) {n i:Nat} {Td:Int->Prop} (A:oL N u E n Td) (hi:i<N) (e:TK (fun j=>(E j).st) N i=n):((E i).v=1/\(Td (E i).k↔(E i).kd≠2)\/(E i).v=0/\¬ (Td (E i).k↔(E i).kd≠2))/\oL N u E (n+1) (fun key=>if (E i).kd≠1/\key=(E i).k then (E i).kd=2 else Td key):=by
 have hl:=T.lo i hi
 have hk0:=T.k0 i hi
 have hin:=A i hi e
 obtain⟨s,hs⟩:∃ s,(E i).st=s+1:=⟨(E i).st - 1,by omega⟩
 rw[show (E i).st - 1=s by omega] at hin
 have Ob:s<σ:=by omega
 -- what is there behind it
 have behind:∀ key,0<=key->((if (E i).kd≠1/\key=(E i).k then (E i).kd=2 else Td key)↔u.S (s+1) key):=by
  intro key hk
  rcases T.ok i hi with⟨hv,h | h | h⟩ | ⟨hv,hev,h⟩
  . obtain⟨k1,-,hev⟩:=h
    rw[if_neg (fun h=>h.1 k1),hin key hk]
    rw[hs] at hev
    exact(T.e0 s Ob hev key hk).symm
  . obtain⟨k2,hev⟩:=h
    rw[hs] at hev
    obtain⟨a1,a2,a3⟩:=T.e1 s _ _ Ob hev
    by_cases ek:key=(E i).k
    . rw[if_pos ⟨by rw[k2];decide,ek⟩,ek,a1]
      exact⟨fun _=>rfl,fun _=>k2⟩
    . rw[if_neg (fun h=>ek h.2),hin key hk]
      exact(a3 key hk ek).symm
  . obtain⟨k3,hev⟩:=h
    rw[hs] at hev
    obtain⟨a1,a2,a3⟩:=T.e1 s _ _ Ob hev
    by_cases ek:key=(E i).k
    . rw[if_pos ⟨by rw[k3];decide,ek⟩,ek,a1]
      exact⟨fun h=>by rw[k3] at h;exact absurd h (by decide),fun h=>by cases h⟩
    . rw[if_neg (fun h=>ek h.2),hin key hk]
      exact(a3 key hk ek).symm
  . rw[hs] at hev
    have h0:=T.e0 s Ob hev
    by_cases ek:(E i).kd≠1/\key=(E i).k
    . rw[if_pos ek,ek.2]
      rw[hs] at h
      rcases h with⟨k2,h⟩ | ⟨k2,h⟩
      . exact⟨fun _=>h,fun _=>k2⟩
      . exact⟨fun h'=>absurd h' k2,fun h'=>absurd h' h⟩
    . rw[if_neg ek,hin key hk]
      exact(h0 key hk).symm
 refine⟨?_,fun j hj ej key hk=>?_⟩
 . have hi0:=hin (E i).k hk0
   rcases T.ok i hi with⟨hv,h | h | h⟩ | ⟨hv,hev,h⟩
   . obtain⟨k1,hS,hev⟩:=h
     rw[hs] at hS hev
     refine Or.inl ⟨hv,fun _=>by rw[k1];decide,fun _=>hi0.2 ((T.e0 s Ob hev _ hk0).1 hS)⟩
   . obtain⟨k2,hev⟩:=h
     rw[hs] at hev
     obtain⟨a1,a2,a3⟩:=T.e1 s _ _ Ob hev
     refine Or.inl ⟨hv,fun h=>?_,fun h=>absurd k2 h⟩
     have:=a2.1 (hi0.1 h)
     cases this
   . obtain⟨k3,hev⟩:=h
     rw[hs] at hev
     obtain⟨a1,a2,a3⟩:=T.e1 s _ _ Ob hev
     exact Or.inl ⟨hv,fun _=>by rw[k3];decide,fun _=>hi0.2 (a2.2 rfl)⟩
   . rw[hs] at hev
     have h0:=T.e0 s Ob hev _ hk0
     rw[hs] at h
     rcases h with⟨k2,h⟩ | ⟨k2,h⟩
     . exact Or.inr ⟨hv,fun hh=>hh.1 (hi0.2 (h0.1 h)) k2⟩
     . exact Or.inr ⟨hv,fun hh=>h (h0.2 (hi0.1 (hh.2 k2)))⟩
 . show (if (E i).kd≠1/\key=(E i).k then (E i).kd=2 else Td key)↔_
   rw[behind key hk]
   have hlj:=T.lo j hj
   have haj:UC (fun j=>(E j).st) i j:=(zC hi hj).1 (by rw[e,ej];omega)
   have hle:(E i).st<=(E j).st:=by
    have dI:(E i).st<(E j).st\/((E i).st=(E j).st/\i<j):=haj
    omega
   by_cases heq:(E i).st=(E j).st
   . -- two that changed nothing
     have hev:u.ev (s+1)=none:=by
      cases hev:u.ev (s+1) with
      | none=>rfl
      | some kb =>
       have:=T.un i j hi hj heq (by rw[hs,hev];simp)
       rw[this] at haj
       exact absurd haj Jy
     rw[show (E j).st - 1=s by omega]
     exact T.e0 s Ob hev key hk
   . refine(T.calm (a:=s+1) (b:=(E j).st - 1) (by omega) (by omega) (fun x h1 h2=>?_) key hk).symm
     cases hev:u.ev x with
     | none=>rfl
     | some kb =>
      obtain⟨l,hl',es⟩:=T.all x kb.1 kb.2 (by omega) (by omega) hev
      have b1:=Uf (f:=fun j=>(E j).st) (N:=N) (a:=i) (b:=l) hi (Or.inl (by show (E i).st<(E l).st;omega))
      have b2:=Uf (f:=fun j=>(E j).st) (N:=N) (a:=l) (b:=j) hl' (Or.inl (by show (E l).st<(E j).st;omega))
      omega
theorem Told.yz (T:Told σ0 σ u N E) {a b:Nat} {key:Int} (hk:0<=key) (hab:a<=b) (hb:b<=σ) (h:∀ s x,a<s->s<=b->u.ev s≠some (key,x)):u.S b key↔u.S a key:=by
 induction b with
 | zero=>rw[show a=0 by omega]
 | succ b ih =>
  by_cases e:a=b+1
  . rw[e]
  . have ih':=ih (by omega) (by omega) (fun s x h1 h2=>h s x h1 (by omega))
    cases hev:u.ev (b+1) with
    | none=>rw[T.e0 b (by omega) hev key hk];exact ih'
    | some kb =>
     obtain⟨k',x⟩:=kb
     have hne:key≠k':=fun e'=>h (b+1) x (by omega) (Nat.le_refl _) (by rw[hev,e'])
     rw[(T.e1 b k' x (by omega) hev).2.2 key hk hne];exact ih'
def En.did (e:En) (key:Int):Prop:=e.kd≠1/\e.v=1/\e.k=key
structure XR (E:Nat->En) (i:Nat) (key:Int) (Td:Prop) (last:Nat):Prop where
 no:last=0->¬ Td/\∀ j,j<i->¬ (E j).did key
 yes:last≠0->∃ j,j<i/\(E j).did key/\(E j).st=last/\(Td↔(E j).kd=2)
 mx:∀ j,j<i->(E j).did key->(E j).st<=last
theorem XR.first (E:Nat->En) (key:Int):XR E 0 key False 0:=⟨fun _=>⟨id,fun j hj=>by omega⟩,fun h=>absurd rfl h,fun j hj=>by omega⟩
theorem Told.last (T:Told σ0 σ u N E) {i last:Nat} {key:Int} {Td:Prop} (L:XR E i key Td last) (hi:i<N):((E i).did key->last<=(E i).st->XR E (i+1) key ((E i).kd=2) (E i).st)/\(¬ ((E i).did key/\last<=(E i).st)->XR E (i+1) key Td last):=by
 have hl:=T.lo i hi
 refine⟨fun hd hle=>⟨fun e=>by omega,fun _=>⟨i,by omega,hd,rfl,Iff.rfl⟩,fun j hj hdj=>?_⟩,fun hno=>⟨fun e=>⟨(L.no e).1,fun j hj hdj=>?_⟩,fun e=>?_,fun j hj hdj=>?_⟩⟩
 . by_cases e:j=i
   . rw[e];exact Nat.le_refl _
   . exact Nat.le_trans (L.mx j (by omega) hdj) hle
 . by_cases e':j=i
   . rw[e'] at hdj;exact hno ⟨hdj,by omega⟩
   . exact(L.no e).2 j (by omega) hdj
 . obtain⟨j,h1,h2⟩:=L.yes e
   exact⟨j,by omega,h2⟩
 . by_cases e':j=i
   . rw[e'] at hdj ⊢
     refine Classical.byContradiction fun h=>hno ⟨hdj,by omega⟩
   . exact L.mx j (by omega) hdj
theorem Told.left (T:Told σ0 σ u N E) (hσ:σ0<=σ) {last:Nat} {key:Int} {Td:Prop} (hk:0<=key) (L:XR E N key Td last):Td↔u.S σ key:=by
 have evs:∀ s x,σ0<s->s<=σ->u.ev s=some (key,x)->∃ j,j<N/\(E j).did key/\(E j).st=s:=fun s x h1 h2 hev=>by
  obtain⟨j,hj,es⟩:=T.all s key x h1 h2 hev
  refine⟨j,hj,?_,es⟩
  rcases T.ok j hj with⟨hv,h | h | h⟩ | ⟨hv,h,-⟩
  . rw[es,hev] at h;cases h.2.2
  . rw[es,hev] at h
    have:=h.2
    simp at this
    exact⟨by rw[h.1];decide,hv,this.1.symm⟩
  . rw[es,hev] at h
    have:=h.2
    simp at this
    exact⟨by rw[h.1];decide,hv,this.1.symm⟩
  . rw[es,hev] at h;cases h
 by_cases e:last=0
 . obtain⟨a1,a2⟩:=L.no e
   rw[T.yz hk hσ (Nat.le_refl _) (fun s x h1 h2 hev=>by
    obtain⟨j,hj,hd,-⟩:=evs s x h1 h2 hev
    exact a2 j hj hd)]
   exact⟨fun h=>absurd h a1,fun h=>absurd h (T.z key hk)⟩
 . obtain⟨j,hj,hd,es,hin⟩:=L.yes e
   have hl:=T.lo j hj
   rw[T.yz (a:=last) hk (by omega) (Nat.le_refl _) (fun s x h1 h2 hev=>by
    obtain⟨l,hl',hd',es'⟩:=evs s x (by omega) h2 hev
    have:=L.mx l hl' hd'
    omega),hin]
   obtain⟨s,hs⟩:∃ s,last=s+1:=⟨last - 1,by omega⟩
   obtain⟨d1,d2,d3⟩:=hd
   rcases T.ok j hj with⟨hv,h | h | h⟩ | ⟨hv,h,-⟩
   . exact absurd h.1 d1
   . have hev:=h.2
     rw[es,hs,d3] at hev
     rw[hs,(T.e1 s _ _ (by omega) hev).1]
     exact⟨fun _=>rfl,fun _=>h.1⟩
   . have hev:=h.2
     rw[es,hs,d3] at hev
     rw[hs,(T.e1 s _ _ (by omega) hev).1]
     exact⟨fun h'=>by rw[h.1] at h';exact absurd h' (by decide),fun h'=>by cases h'⟩
   . rw[hv] at d2;exact absurd d2 (by decide)
end
end
section
def claim (C:Cl) (r:Option Rs):Option Nat :=
 match C.po,r with
 | .put _ _ _ _,some r=>if r.E=0 then some r.St else none
 | .mark _ _ _ _ _,some r=>if r.E=0 then some r.St else none
 | .lead _ _ _ st,_=>some st
 | .Zl _ st,_=>some st
 | _,_=>none
def Yq:Option (Cl × Option Rs)->Option Nat
 | none=>none
 | some (C,r)=>claim C r
def En.vg (e:En):Prop:=e.kd≠1/\e.v=1
structure JD (σ0 σ:Nat) (u:Hi) (ts:Nat->Option (Cl × Option Rs)) (D:List En):Prop where
 all:∀ s,σ0<s->s<=σ->u.ev s≠none->(∃ e,e∈D/\e.vg/\e.st=s)\/∃ K,Yq (ts K)=some s
 dd:D.Pairwise (fun a b=>a.vg->b.vg->a.st≠b.st)
 dc:∀ K s e,Yq (ts K)=some s->e∈D->e.vg->e.st≠s
 cc:∀ K K' s,Yq (ts K)=some s->Yq (ts K')=some s->K=K'
 le:∀ e,e∈D->e.st<=σ
 cl:∀ K s,Yq (ts K)=some s->s<=σ
section
variable {σ0 σ σ' K:Nat} {u u':Hi} {ts:Nat->Option (Cl × Option Rs)} {D:List En} {x:Option (Cl × Option Rs)}
theorem JD.same (V:JD σ0 σ u ts D) (hσ:σ<=σ') (hev:∀ s,u'.ev s=u.ev s) (hn:∀ s,σ<s->u.ev s=none) (hx:Yq x=Yq (ts K)):JD σ0 σ' u' (upd ts K x) D:=by
 have hc:∀ K',Yq (upd ts K x K')=Yq (ts K'):=fun K'=>by
  by_cases e:K'=K
  . rw[e,upd_same];exact hx
  . rw[Z9 _ _ _ _ e]
 refine⟨fun s h1 h2 h3=>?_,V.dd,fun K' s e h1=>V.dc K' s e (by rw[<- hc];exact h1),fun K1 K2 s h1 h2=>V.cc K1 K2 s (by rw[<- hc];exact h1) (by rw[<- hc];exact h2),fun e he=>Nat.le_trans (V.le e he) hσ,fun K' s h1=>Nat.le_trans (V.cl K' s (by rw[<- hc];exact h1)) hσ⟩
 rw[hev] at h3
 have hs:s<=σ:=by
  refine Classical.byContradiction fun h=>h3 (hn s (by omega))
 refine(V.all s h1 hs h3).imp id ?_
 rintro⟨K',e⟩
 exact⟨K',by rw[hc];exact e⟩
theorem JD.event (V:JD σ0 σ u ts D) {kb:Int × Bool} (hev:u'.ev=upd u.ev (σ+1) (some kb)) (h0:Yq (ts K)=none) (hx:Yq x=some (σ+1)):JD σ0 (σ+1) u' (upd ts K x) D:=by
 have hc:∀ K' s,Yq (upd ts K x K')=some s->(K'=K/\s=σ+1)\/(K'≠K/\Yq (ts K')=some s):=fun K' s h=>by
  by_cases e:K'=K
  . rw[e,upd_same,hx] at h;injection h with h;exact Or.inl ⟨e,h.symm⟩
  . rw[Z9 _ _ _ _ e] at h;exact Or.inr ⟨e,h⟩
 refine⟨fun s h1 h2 h3=>?_,V.dd,fun K' s e h1 he hU=>?_,fun K1 K2 s h1 h2=>?_,fun e he=>Nat.le_succ_of_le (V.le e he),fun K' s h1=>?_⟩
 . by_cases e:s=σ+1
   . exact Or.inr ⟨K,by rw[upd_same,hx,e]⟩
   . rw[hev,Z9 _ _ _ _ e] at h3
     refine(V.all s h1 (by omega) h3).imp id ?_
     rintro⟨K',e'⟩
     have hne:K'≠K:=fun bU=>by rw[bU,h0] at e';cases e'
     exact⟨K',by rw[Z9 _ _ _ _ hne];exact e'⟩
 . rcases hc K' s h1 with⟨-,e'⟩ | ⟨-,e'⟩
   . have:=V.le e he;omega
   . exact V.dc K' s e e' he hU
 . rcases hc K1 s h1 with⟨a1,a2⟩ | ⟨a1,a2⟩ <;> rcases hc K2 s h2 with⟨b1,b2⟩ | ⟨b1,b2⟩
   . rw[a1,b1]
   . have:=V.cl K2 s b2;omega
   . have:=V.cl K1 s a2;omega
   . exact V.cc K1 K2 s a2 b2
 . rcases hc K' s h1 with⟨-,e'⟩ | ⟨-,e'⟩
   . omega
   . have:=V.cl K' s e';omega
theorem JD.done (V:JD σ0 σ u ts D) {e:En} (hst:e.st<=σ) (h:(e.vg/\Yq (ts K)=some e.st)\/(¬ e.vg/\Yq (ts K)=none)):JD σ0 σ u (upd ts K none) (D ++ [e]):=by
 have hc:∀ K' s,Yq (upd ts K none K')=some s->K'≠K/\Yq (ts K')=some s:=fun K' s h'=>by
  by_cases e':K'=K
  . rw[e',upd_same] at h';cases h'
  . rw[Z9 _ _ _ _ e'] at h';exact⟨e',h'⟩
 refine⟨fun s h1 h2 h3=>?_,List.pairwise_append.2 ⟨V.dd,List.pairwise_singleton _ _,fun a ha b hb hU iP=>?_⟩,fun K' s e' h1 he hU=>?_,fun K1 K2 s h1 h2=>V.cc K1 K2 s (hc K1 s h1).2 (hc K2 s h2).2,fun e' he=>?_,fun K' s h1=>V.cl K' s (hc K' s h1).2⟩
 . rcases V.all s h1 h2 h3 with⟨e',a1,a2,a3⟩ | ⟨K',a1⟩
   . exact Or.inl ⟨e',List.mem_append.2 (Or.inl a1),a2,a3⟩
   . by_cases eK:K'=K
     . rw[eK] at a1
       rcases h with⟨b1,b2⟩ | ⟨-,b2⟩
       . rw[a1] at b2;injection b2 with b2
         exact Or.inl ⟨e,List.mem_append.2 (Or.inr (by simp)),b1,b2.symm⟩
       . rw[a1] at b2;cases b2
     . exact Or.inr ⟨K',by rw[Z9 _ _ _ _ eK];exact a1⟩
 . rw[List.mem_singleton.1 hb] at iP ⊢
   rcases h with⟨-,b2⟩ | ⟨b1,-⟩
   . exact V.dc K _ a b2 ha hU
   . exact absurd iP b1
 . obtain⟨hne,h1'⟩:=hc K' s h1
   rcases List.mem_append.1 he with he | he
   . exact V.dc K' s e' h1' he hU
   . rw[List.mem_singleton.1 he] at hU ⊢
     rcases h with⟨-,b2⟩ | ⟨b1,-⟩
     . intro es
       rw[es] at b2
       exact hne (V.cc K' K s h1' b2)
     . exact absurd hU b1
 . rcases List.mem_append.1 he with he | he
   . exact V.le e' he
   . rw[List.mem_singleton.1 he];exact hst
def Dy (σ0 σ:Nat) (u:Hi) (e:En):Prop:=0<=e.k/\(e.kd=1\/e.kd=2\/e.kd=3)/\σ0<e.st/\∃ b,Right σ u e.kd e.k b e.v e.st
theorem JD.told {h:Gh} {hd:Nat} {F:List Nat} (V:JD σ0 σ u ts D) (hn:∀ K,ts K=none) (L:Lw h hd σ F u) (ok:∀ e,e∈D->Dy σ0 σ u e) (hz:∀ key,0<=key->¬ u.S σ0 key) (e0:En):Told σ0 σ u D.length (fun i=>(D[i]?).getD e0):=by
 have get:∀ i,i<D.length->∃ e,e∈D/\D[i]?=some e/\(D[i]?).getD e0=e:=fun i hi=>⟨D[i],List.getElem_mem hi,List.getElem?_eq_getElem hi,by rw[List.getElem?_eq_getElem hi];rfl⟩
 have nU:∀ e,e∈D->u.ev e.st≠none->e.vg:=fun e he hev=>by
  obtain⟨a1,a2,a3,b,c1,c2,c3⟩:=ok e he
  rcases c3 with⟨hv,h | h | h⟩ | ⟨hv,h,-⟩
  . exact absurd h.2.2 hev
  . exact⟨by rw[h.1];decide,hv⟩
  . exact⟨by rw[h.1];decide,hv⟩
  . exact absurd h hev
 refine⟨fun i hi=>?_,fun i hi=>?_,fun i hi=>?_,fun i hi=>?_,fun s key b h1 h2 hev=>?_,fun i j hi hj es hev=>?_,hz,L.e0,L.e1⟩
 . obtain⟨e,he,-,ee⟩:=get i hi
   simp only[ee]
   obtain⟨a1,a2,a3,b,c1,c2,c3⟩:=ok e he
   exact⟨a3,c2⟩
 . obtain⟨e,he,-,ee⟩:=get i hi
   simp only[ee];exact(ok e he).1
 . obtain⟨e,he,-,ee⟩:=get i hi
   simp only[ee];exact(ok e he).2.1
 . obtain⟨e,he,-,ee⟩:=get i hi
   simp only[ee]
   obtain⟨a1,a2,a3,b,c1,c2,c3⟩:=ok e he
   exact c3
 . rcases V.all s h1 h2 (by rw[hev];simp) with⟨e,a1,a2,a3⟩ | ⟨K',a1⟩
   . obtain⟨i,hi,ei⟩:=List.getElem_of_mem a1
     exact⟨i,hi,by simp only[List.getElem?_eq_getElem hi,Option.getD_some,ei];exact a3⟩
   . rw[hn K'] at a1;cases a1
 . obtain⟨e,he,ge,ee⟩:=get i hi
   obtain⟨e',he',iO,bT⟩:=get j hj
   simp only[ee,bT] at es hev
   have U:=nU e he hev
   have U':=nU e' he' (by rw[<- es];exact hev)
   have ei:D[i]=e:=by rw[List.getElem?_eq_getElem hi] at ge;injection ge
   have ej:D[j]=e':=by rw[List.getElem?_eq_getElem hj] at iO;injection iO
   rcases Nat.lt_trichotomy i j with h | h | h
   . have:=List.pairwise_iff_getElem.1 V.dd i j hi hj h
     rw[ei,ej] at this
     exact absurd es (this U U')
   . exact h
   . have:=List.pairwise_iff_getElem.1 V.dd j i hj hi h
     rw[ei,ej] at this
     exact absurd es.symm (this U' U)
end
end
end Go.Proofs.YtpbghmeikcphnaaGreat
