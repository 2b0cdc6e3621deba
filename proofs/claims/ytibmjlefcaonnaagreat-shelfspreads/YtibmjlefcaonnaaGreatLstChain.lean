import Derived.Test.YtibmjlefcaonnaaGreatOnly
namespace Go.Proofs.YtibmjlefcaonnaaGreat
open Go.RowKit
def Linked (lk H:Nat->Int):List Nat->Prop
 | []=>True
 | [p]=>lk p % 4294967296=0
 | p :: c :: L=>lk p % 4294967296=H c/\Linked lk H (c :: L)
theorem Linked.tail {lk H:Nat->Int} {p:Nat} {L:List Nat} (h:Linked lk H (p :: L)):Linked lk H L:=by
 cases L with
 | nil=>trivial
 | cons c L=>exact h.2
theorem Linked.mid {lk H:Nat->Int} {A L:List Nat} (h:Linked lk H (A ++ L)):Linked lk H L:=by
 induction A with
 | nil=>exact h
 | cons a A ih=>exact ih (Linked.tail h)
theorem Linked.same {lk lk' H:Nat->Int} {L:List Nat} (e:∀ a,a∈L->lk' a=lk a) (h:Linked lk H L):Linked lk' H L:=by
 induction L with
 | nil=>trivial
 | cons p L ih =>
  cases L with
  | nil=>show lk' p % _=0;rw[e p (by simp)];exact h
  | cons c L=>exact⟨by rw[e p (by simp)];exact h.1,ih (fun a ha=>e a (List.mem_cons_of_mem _ ha)) h.2⟩
theorem Linked.swap {lk lk' H:Nat->Int} {p:Nat} {A B B':List Nat} (e:∀ a,a∈A->lk' a=lk a) (h:Linked lk H (A ++ p :: B)) (hB:Linked lk' H (p :: B')):Linked lk' H (A ++ p :: B'):=by
 induction A with
 | nil=>exact hB
 | cons a A ih =>
  have ih':=ih (fun b hb=>e b (List.mem_cons_of_mem _ hb)) (Linked.tail h)
  cases A with
  | nil=>exact⟨by rw[e a (by simp)];exact h.1,ih'⟩
  | cons b A=>exact⟨by rw[e a (by simp)];exact h.1,ih'⟩
def O6 (ky lk:Nat->Int) (F:List Nat) (k:Int):Prop:=∃ c,c∈F/\ky c=k/\lk c<4294967296
structure VU (ZL:Nat->Bool) (ky lk H:Nat->Int) (hd:Nat) (F:List Nat):Prop where
 nd:F.Nodup
 hf:∃ C,F=hd :: C
 XP:Linked lk H F
 pb:∀ j,j∈F->ZL j=true
 out:∀ j,ZL j=true->j∉F->4294967296<=lk j
 hg:lk hd<4294967296
 so:F.Pairwise (fun a b=>ky a<ky b)
 nx:∀ j,ZL j=true->lk j % 4294967296=0\/∃ i,ZL i=true/\lk j % 4294967296=H i/\i≠hd
 vl:∀ j,ZL j=true->0<=lk j/\lk j<8589934592
 inj:∀ i j,ZL i=true->ZL j=true->H i=H j->i=j
 h0:∀ j,ZL j=true->0<H j/\H j<4294967296
section
variable {ZL:Nat->Bool} {ky lk H:Nat->Int} {hd p c:Nat} {F:List Nat}
theorem VU.mem (S:VU ZL ky lk H hd F) (hp:ZL p=true) (hl:lk p<4294967296):p∈F:=by
 by_cases h:p∈F
 . exact h
 . have:=S.out p hp h;omega
theorem VU.at (S:VU ZL ky lk H hd F) (hp:ZL p=true) (hl:lk p<4294967296):∃ A B,F=A ++ p :: B/\(lk p=0->B=[])/\∀ c,ZL c=true->lk p=H c->∃ B',B=c :: B':=by
 obtain⟨A,B,e⟩:=List.append_of_mem (S.mem hp hl)
 have hv:=S.vl p hp
 have hm:lk p % 4294967296=lk p:=by omega
 have L:=S.XP
 rw[e] at L
 have L:=Linked.mid L
 refine⟨A,B,e,fun h0=>?_,fun c hc h1=>?_⟩
 . cases B with
   | nil=>rfl
   | cons b B =>
    have hb:=S.h0 b (S.pb b (by rw[e];simp))
    have:=L.1
    omega
 . cases B with
   | nil =>
    have hb:=S.h0 c hc
    have:lk p % 4294967296=0:=L
    omega
   | cons b B =>
    have h2:=L.1
    rw[hm,h1] at h2
    exact⟨B,by rw[S.inj c b hc (S.pb b (by rw[e];simp)) h2]⟩
theorem F7 {A B:List Nat} (h:(A ++ p :: B).Pairwise (fun a b=>ky a<ky b)):(∀ a,a∈A->ky a<ky p)/\∀ b,b∈B->ky p<ky b:=by
 obtain⟨-,h2,h3⟩:=List.pairwise_append.1 h
 exact⟨fun a ha=>h3 a ha p (by simp),fun b hb=>(List.pairwise_cons.1 h2).1 b hb⟩
theorem VU.absent (S:VU ZL ky lk H hd F) (hp:ZL p=true) (hl:lk p<4294967296) {k:Int} (hk:ky p<k) (h:lk p=0\/∃ c,ZL c=true/\lk p=H c/\k<ky c):¬ O6 ky lk F k:=by
 obtain⟨A,B,e,h1,h2⟩:=S.at hp hl
 rintro⟨d,hd,e1,-⟩
 have so:=S.so
 rw[e] at hd so
 obtain⟨a1,a2⟩:=F7 so
 rcases List.mem_append.1 hd with hA | hB
 . have:=a1 d hA;omega
 . rcases List.mem_cons.1 hB with rfl | hB
   . omega
   . rcases h with h | ⟨c,hc,h,hck⟩
     . rw[h1 h] at hB;cases hB
     . obtain⟨B',rfl⟩:=h2 c hc h
       rcases List.mem_cons.1 hB with rfl | hB
       . omega
       . have:=(List.pairwise_cons.1 (List.pairwise_cons.1 (List.pairwise_append.1 so).2.1).2).1 d hB
         omega
theorem VU.present (S:VU ZL ky lk H hd F) (hc:ZL c=true) (hl:lk c<4294967296):O6 ky lk F (ky c):=⟨c,S.mem hc hl,rfl,hl⟩
theorem VU.uniq (S:VU ZL ky lk H hd F) {a b:Nat} (ha:a∈F) (hb:b∈F) (e:ky a=ky b):a=b:=by
 obtain⟨A,B,eF⟩:=List.append_of_mem ha
 have so:=S.so
 rw[eF] at hb so
 obtain⟨a1,a2⟩:=F7 so
 rcases List.mem_append.1 hb with h | h
 . have:=a1 b h;omega
 . rcases List.mem_cons.1 h with h | h
   . exact h.symm
   . have:=a2 b h;omega
theorem VU.mark (S:VU ZL ky lk H hd F) (hc:ZL c=true) (hne:c≠hd) (hl:lk c<4294967296):VU ZL ky (upd lk c (lk c+4294967296)) H hd F/\∀ k,O6 ky (upd lk c (lk c+4294967296)) F k↔O6 ky lk F k/\k≠ky c:=by
 have hv:=S.vl c hc
 have hmod:∀ j,upd lk c (lk c+4294967296) j % 4294967296=lk j % 4294967296:=fun j=>by
  by_cases e:j=c
  . rw[e,upd_same];omega
  . rw[Z8 _ _ _ _ e]
 have uT:=S.mem hc hl
 refine⟨⟨S.nd,S.hf,?_,S.pb,fun j hj BK=>?_,?_,S.so,fun j hj=>by rw[hmod];exact S.nx j hj,fun j hj=>?_,S.inj,S.h0⟩,fun k=>⟨?_,?_⟩⟩
 . have:=S.XP
   clear uT
   generalize F=L at this
   induction L with
   | nil=>trivial
   | cons a L ih =>
    cases L with
    | nil=>show upd lk c _ a % _=0;rw[hmod];exact this
    | cons b L=>exact⟨by rw[hmod];exact this.1,ih this.2⟩
 . rw[Z8 _ _ _ _ (fun e=>BK (by rw[e];exact uT))];exact S.out j hj BK
 . rw[Z8 _ _ _ _ (Ne.symm hne)];exact S.hg
 . by_cases e:j=c
   . rw[e,upd_same];omega
   . rw[Z8 _ _ _ _ e];exact S.vl j hj
 . rintro⟨d,h1,h2,h3⟩
   by_cases e:d=c
   . rw[e,upd_same] at h3;omega
   . rw[Z8 _ _ _ _ e] at h3
     exact⟨⟨d,h1,h2,h3⟩,fun ek=>e (S.uniq h1 uT (by rw[h2,ek]))⟩
 . rintro⟨⟨d,h1,h2,h3⟩,hk⟩
   have e:d≠c:=fun e=>hk (by rw[<- h2,e])
   exact⟨d,h1,h2,by rw[Z8 _ _ _ _ e];exact h3⟩
theorem VU.past (S:VU ZL ky lk H hd F) (hp:ZL p=true) (hc:ZL c=true) (hpl:lk p=H c) (hg:4294967296<=lk c):∃ A B,F=A ++ p :: c :: B/\VU ZL ky (upd lk p (lk c - 4294967296)) H hd (A ++ p :: B)/\(∀ k,O6 ky (upd lk p (lk c - 4294967296)) (A ++ p :: B) k↔O6 ky lk F k)/\c∉A ++ p :: B/\(∀ j,j∈A ++ p :: B->j∈F)/\c∈F:=by
 have hcb:=S.h0 c hc
 have Hy:=S.vl c hc
 obtain⟨A,B,e,-,h2⟩:=S.at hp (by omega)
 obtain⟨B,rfl⟩:=h2 c hc hpl
 have nd:=S.nd
 have so:=S.so
 have XP:=S.XP
 rw[e] at nd so XP
 obtain⟨nA,zl,zZ⟩:=List.nodup_append.1 nd
 have zi:p∉c :: B:=(List.nodup_cons.1 zl).1
 have qE:c∉B:=(List.nodup_cons.1 (List.nodup_cons.1 zl).2).1
 have uS:B.Nodup:=(List.nodup_cons.1 (List.nodup_cons.1 zl).2).2
 have qC:p≠c:=fun h=>zi (by rw[h];simp)
 have uQ:p∉A:=fun h=>zZ p h p (by simp) rfl
 have qB:c∉A:=fun h=>zZ c h c (by simp) rfl
 have ek:∀ j,j∈A ++ p :: B->j∈F:=fun j hj=>by
  rw[e]
  rcases List.mem_append.1 hj with h | h
  . exact List.mem_append.2 (Or.inl h)
  . rcases List.mem_cons.1 h with h | h
    . rw[h];simp
    . exact List.mem_append.2 (Or.inr (List.mem_cons_of_mem _ (List.mem_cons_of_mem _ h)))
 have uP:c∉A ++ p :: B:=fun h=>by
  rcases List.mem_append.1 h with h | h
  . exact qB h
  . rcases List.mem_cons.1 h with h | h
    . exact qC h.symm
    . exact qE h
 have other:∀ j,ZL j=true->j∉A ++ p :: B->j=c\/j∉F:=fun j _ hj=>by
  by_cases ej:j=c
  . exact Or.inl ej
  . refine Or.inr (fun hF=>hj ?_)
    rw[e] at hF
    rcases List.mem_append.1 hF with h | h
    . exact List.mem_append.2 (Or.inl h)
    . rcases List.mem_cons.1 h with h | h
      . rw[h];simp
      . rcases List.mem_cons.1 h with h | h
        . exact absurd h ej
        . exact List.mem_append.2 (Or.inr (List.mem_cons_of_mem _ h))
 have lB:Linked (upd lk p (lk c - 4294967296)) H (p :: B):=by
  have L2:Linked lk H (c :: B):=Linked.tail (Linked.mid XP)
  have same:∀ a,a∈B->upd lk p (lk c - 4294967296) a=lk a:=fun a ha=>Z8 _ _ _ _ (fun h=>zi (by rw[<- h];exact List.mem_cons_of_mem _ ha))
  cases B with
  | nil =>
   show upd lk p _ p % _=0
   have:lk c % 4294967296=0:=L2
   rw[upd_same];omega
  | cons b B =>
   refine⟨?_,Linked.same same L2.2⟩
   have:=L2.1
   rw[upd_same];omega
 refine⟨A,B,e,⟨?_,?_,Linked.swap (fun a ha=>Z8 _ _ _ _ (fun h=>uQ (h ▸ ha))) XP lB,fun j hj=>S.pb j (ek j hj),fun j hj BK=>?_,?_,?_,fun j hj=>?_,fun j hj=>?_,S.inj,S.h0⟩,fun k=>⟨?_,?_⟩,uP,ek,by rw[e];simp⟩
 . refine List.nodup_append.2 ⟨nA,List.nodup_cons.2 ⟨fun h=>zi (List.mem_cons_of_mem _ h),uS⟩,fun a ha b hb=>zZ a ha b ?_⟩
   rcases List.mem_cons.1 hb with h | h
   . rw[h];simp
   . exact List.mem_cons_of_mem _ (List.mem_cons_of_mem _ h)
 . obtain⟨C,hC⟩:=S.hf
   rw[e] at hC
   cases A with
   | nil=>injection hC with h1 _;exact⟨B,by rw[h1];rfl⟩
   | cons a A=>injection hC with h1 _;exact⟨A ++ p :: B,by rw[h1];rfl⟩
 . have hjp:j≠p:=fun h=>BK (by rw[h];simp)
   rw[Z8 _ _ _ _ hjp]
   rcases other j hj BK with h | h
   . rw[h];exact hg
   . exact S.out j hj h
 . by_cases h:hd=p
   . rw[h,upd_same];omega
   . rw[Z8 _ _ _ _ h];exact S.hg
 . obtain⟨s1,s2,s3⟩:=List.pairwise_append.1 so
   obtain⟨s4,s5⟩:=List.pairwise_cons.1 s2
   refine List.pairwise_append.2 ⟨s1,List.pairwise_cons.2 ⟨fun b hb=>s4 b (List.mem_cons_of_mem _ hb),(List.pairwise_cons.1 s5).2⟩,fun a ha b hb=>s3 a ha b ?_⟩
   rcases List.mem_cons.1 hb with h | h
   . rw[h];simp
   . exact List.mem_cons_of_mem _ (List.mem_cons_of_mem _ h)
 . by_cases h:j=p
   . rw[h,upd_same]
     have:=S.nx c hc
     rw[show (lk c - 4294967296) % 4294967296=lk c % 4294967296 by omega]
     exact this
   . rw[Z8 _ _ _ _ h];exact S.nx j hj
 . by_cases h:j=p
   . rw[h,upd_same];omega
   . rw[Z8 _ _ _ _ h];exact S.vl j hj
 . rintro⟨d,h1,h2,h3⟩
   refine⟨d,ek d h1,h2,?_⟩
   by_cases h:d=p
   . rw[h];omega
   . rw[Z8 _ _ _ _ h] at h3;exact h3
 . rintro⟨d,h1,h2,h3⟩
   have hdc:d≠c:=fun h=>by rw[h] at h3;omega
   refine⟨d,?_,h2,?_⟩
   . by_cases h:d∈A ++ p :: B
     . exact h
     . rcases other d (S.pb d h1) h with h' | h'
       . exact absurd h' hdc
       . exact absurd h1 h'
   . by_cases h:d=p
     . rw[h,upd_same];omega
     . rw[Z8 _ _ _ _ h];exact h3
theorem VU.put (S:VU ZL ky lk H hd F) {d:Nat} (hp:ZL p=true) (hl:lk p<4294967296) (hd0:ZL d=false) (hk:ky p<ky d) (h:lk p=0\/∃ c,ZL c=true/\lk p=H c/\ky d<ky c) (hdl:lk d=lk p) (hH:0<H d/\H d<4294967296) (hi:∀ j,ZL j=true->H j≠H d):∃ A B,F=A ++ p :: B/\VU (upd ZL d true) ky (upd lk p (H d)) H hd (A ++ p :: d :: B)/\(∀ k,O6 ky (upd lk p (H d)) (A ++ p :: d :: B) k↔O6 ky lk F k\/k=ky d)/\∀ j,j∈A ++ p :: d :: B↔j=d\/j∈F:=by
 obtain⟨A,B,e,h1,h2⟩:=S.at hp hl
 have hvp:=S.vl p hp
 have nd:=S.nd
 have so:=S.so
 have XP:=S.XP
 have dF:d∉F:=fun h=>by rw[S.pb d h] at hd0;cases hd0
 have zY:p≠d:=fun h=>by rw[h,hd0] at hp;cases hp
 have uO:hd≠d:=fun h=>by
  obtain⟨C,hC⟩:=S.hf
  exact dF (by rw[hC,h];simp)
 rw[e] at nd so XP dF
 obtain⟨nA,zl,zZ⟩:=List.nodup_append.1 nd
 have zi:p∉B:=(List.nodup_cons.1 zl).1
 have uQ:p∉A:=fun h=>zZ p h p (by simp) rfl
 have qA:d∉A:=fun h=>dF (List.mem_append.2 (Or.inl h))
 have uS:d∉B:=fun h=>dF (List.mem_append.2 (Or.inr (List.mem_cons_of_mem _ h)))
 have lt:∀ b,b∈B->ky d<ky b:=fun b hb=>by
  rcases h with h | ⟨c,hc,h,hck⟩
  . rw[h1 h] at hb;cases hb
  . obtain⟨B',rfl⟩:=h2 c hc h
    rcases List.mem_cons.1 hb with rfl | hb
    . exact hck
    . have:=(List.pairwise_cons.1 (List.pairwise_cons.1 (List.pairwise_append.1 so).2.1).2).1 b hb
      omega
 have lB:Linked (upd lk p (H d)) H (p :: d :: B):=by
  have L2:Linked lk H (p :: B):=Linked.mid XP
  have same:∀ a,a∈B->upd lk p (H d) a=lk a:=fun a ha=>Z8 _ _ _ _ (fun h=>zi (h ▸ ha))
  refine⟨by rw[upd_same];omega,?_⟩
  have ed:upd lk p (H d) d=lk p:=(Z8 _ _ _ _ (Ne.symm zY)).trans hdl
  cases B with
  | nil=>show upd lk p _ d % _=0;rw[ed];exact L2
  | cons b B=>exact⟨by rw[ed];exact L2.1,Linked.same same L2.2⟩
 have LQ:∀ j,j∈A ++ p :: d :: B↔j=d\/j∈F:=fun j=>by
  rw[e];simp only[List.mem_append,List.mem_cons]
  constructor
  . rintro(h | h | h | h)
    . exact Or.inr (Or.inl h)
    . exact Or.inr (Or.inr (Or.inl h))
    . exact Or.inl h
    . exact Or.inr (Or.inr (Or.inr h))
  . rintro(h | h | h | h)
    . exact Or.inr (Or.inr (Or.inl h))
    . exact Or.inl h
    . exact Or.inr (Or.inl h)
    . exact Or.inr (Or.inr (Or.inr h))
 have QO:∀ j,j≠d->upd ZL d true j=ZL j:=fun j hj=>Z8 _ _ _ _ hj
 have PH:∀ j,upd ZL d true j=true->j=d\/ZL j=true:=fun j hj=>by
  by_cases ej:j=d
  . exact Or.inl ej
  . rw[QO j ej] at hj;exact Or.inr hj
 refine⟨A,B,e,⟨?_,?_,Linked.swap (fun a ha=>Z8 _ _ _ _ (fun h=>uQ (h ▸ ha))) XP lB,fun j hj=>?_,fun j hj BK=>?_,?_,?_,fun j hj=>?_,fun j hj=>?_,fun i j hi' hj' eH=>?_,fun j hj=>?_⟩,fun k=>⟨?_,?_⟩,LQ⟩
 . refine List.nodup_append.2 ⟨nA,List.nodup_cons.2 ⟨fun h=>?_,List.nodup_cons.2 ⟨uS,(List.nodup_cons.1 zl).2⟩⟩,fun a ha b hb=>?_⟩
   . rcases List.mem_cons.1 h with h | h
     . exact zY h
     . exact zi h
   . rcases List.mem_cons.1 hb with h | h
     . exact zZ a ha b (by rw[h];simp)
     . rcases List.mem_cons.1 h with h | h
       . rw[h];exact fun e'=>qA (e' ▸ ha)
       . exact zZ a ha b (List.mem_cons_of_mem _ h)
 . obtain⟨C,hC⟩:=S.hf
   rw[e] at hC
   cases A with
   | nil=>injection hC with h1 _;exact⟨d :: B,by rw[h1];rfl⟩
   | cons a A=>injection hC with h1 _;exact⟨A ++ p :: d :: B,by rw[h1];rfl⟩
 . rcases (LQ j).1 hj with h | h
   . rw[h,upd_same]
   . rw[QO j (fun e'=>by rw[e',e] at h;exact dF h)];exact S.pb j h
 . have hjd:j≠d:=fun h=>BK ((LQ j).2 (Or.inl h))
   have xI:j∉F:=fun h=>BK ((LQ j).2 (Or.inr h))
   rw[QO j hjd] at hj
   rw[Z8 _ _ _ _ (fun h=>xI (by rw[h,e];simp))]
   exact S.out j hj xI
 . by_cases h:hd=p
   . rw[h,upd_same];omega
   . rw[Z8 _ _ _ _ h];exact S.hg
 . obtain⟨s1,s2,s3⟩:=List.pairwise_append.1 so
   obtain⟨s4,s5⟩:=List.pairwise_cons.1 s2
   refine List.pairwise_append.2 ⟨s1,List.pairwise_cons.2 ⟨fun b hb=>?_,List.pairwise_cons.2 ⟨lt,s5⟩⟩,fun a ha b hb=>?_⟩
   . rcases List.mem_cons.1 hb with h | h
     . rw[h];exact hk
     . exact s4 b h
   . rcases List.mem_cons.1 hb with h | h
     . rw[h];exact s3 a ha p (by simp)
     . rcases List.mem_cons.1 h with h | h
       . rw[h];have:=s3 a ha p (by simp);omega
       . exact s3 a ha b (List.mem_cons_of_mem _ h)
 . by_cases h:j=p
   . rw[h,upd_same]
     exact Or.inr ⟨d,upd_same _ _ _,by omega,Ne.symm uO⟩
   . rw[Z8 _ _ _ _ h]
     have key:lk j % 4294967296=0\/∃ i,ZL i=true/\lk j % 4294967296=H i/\i≠hd:=by
      rcases PH j hj with e' | e'
      . rw[e',hdl];exact S.nx p hp
      . exact S.nx j e'
     rcases key with e' | ⟨i,a1,a2,a3⟩
     . exact Or.inl e'
     . exact Or.inr ⟨i,by rw[QO i (fun e'=>by rw[e',hd0] at a1;cases a1)];exact a1,a2,a3⟩
 . by_cases h:j=p
   . rw[h,upd_same];omega
   . rw[Z8 _ _ _ _ h]
     rcases PH j hj with e' | e'
     . rw[e',hdl];exact hvp
     . exact S.vl j e'
 . rcases PH i hi' with e1 | e1 <;> rcases PH j hj' with e2 | e2
   . rw[e1,e2]
   . rw[e1] at eH;exact absurd eH.symm (hi j e2)
   . rw[e2] at eH;exact absurd eH (hi i e1)
   . exact S.inj i j e1 e2 eH
 . rcases PH j hj with e' | e'
   . rw[e'];exact hH
   . exact S.h0 j e'
 . rintro⟨x,h1,h2,h3⟩
   rcases (LQ x).1 h1 with h | h
   . exact Or.inr (by rw[<- h2,h])
   . refine Or.inl ⟨x,h,h2,?_⟩
     by_cases hx:x=p
     . rw[hx];exact hl
     . rw[Z8 _ _ _ _ hx] at h3;exact h3
 . rintro(⟨x,h1,h2,h3⟩ | h)
   . refine⟨x,(LQ x).2 (Or.inr h1),h2,?_⟩
     by_cases hx:x=p
     . rw[hx,upd_same];omega
     . rw[Z8 _ _ _ _ hx];exact h3
   . exact⟨d,(LQ d).2 (Or.inl rfl),h.symm,by rw[Z8 _ _ _ _ (Ne.symm zY),hdl];exact hl⟩
end
end Go.Proofs.YtibmjlefcaonnaaGreat
