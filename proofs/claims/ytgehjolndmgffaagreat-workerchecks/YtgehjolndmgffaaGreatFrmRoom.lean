import Derived.Test.YtgehjolndmgffaaGreatFrmPlay
namespace Go.Proofs.YtgehjolndmgffaaGreat
open Go.RowKit
theorem LH {α β:Type} [BEq β] [LawfulBEq β] (P:α->β->Prop):∀ (l:List α) (T:List β),l.Nodup->(∀ o∈l,∃ c∈T,P o c)->(∀ o∈l,∀ o'∈l,∀ c,P o c->P o' c->o=o')->l.length<=T.length
 | [],_,_,_,_=>Nat.zero_le _
 | o :: l,T,nd,h1,h2=>by
  obtain⟨c,hc,hp⟩:=h1 o (by simp)
  rw[List.nodup_cons] at nd
  have ih:=LH P l (T.erase c) nd.2 (fun o' ho'=>by
   obtain⟨c',hc',hp'⟩:=h1 o' (by simp[ho'])
   have hne:c'≠c:=fun e=>by
    subst e
    have:=h2 o (by simp) o' (by simp[ho']) c' hp hp'
    exact nd.1 (this ▸ ho')
   exact⟨c',(List.mem_erase_of_ne hne).2 hc',hp'⟩) (fun a ha b hb=>h2 a (by simp[ha]) b (by simp[hb]))
  have hpos:0<T.length:=List.length_pos_of_mem hc
  rw[List.length_erase_of_mem hc] at ih
  simp only[List.length_cons];omega
theorem Ua {α:Type} {f:α->Int}:∀ {l:List α},l.Pairwise (fun a b=>f a<f b)->∀ a∈l,∀ b∈l,f a=f b->a=b
 | [],_,a,ha=>by cases ha
 | x :: l,h,a,ha=>fun b hb e=>by
  have h':=List.pairwise_cons.1 h
  rcases List.mem_cons.1 ha with ea | ha'
  . rcases List.mem_cons.1 hb with eb | hb'
    . rw[ea,eb]
    . have:=h'.1 b hb';rw[ea] at e;omega
  . rcases List.mem_cons.1 hb with eb | hb'
    . have:=h'.1 a ha';rw[eb] at e;omega
    . exact Ua h'.2 a ha' b hb' e
section
variable {t n k m nx:Nat} {q:Q} {gen:Nat->Nat} {ls:List Ox} {N:Nat} {lf:Int->Nat} {hd:Nat->Ox} {ct:Nat->List Ox} {os:Os} {ks:List Int}
def Names (q:Q) (N:Nat) (hd:Nat->Ox) (ct:Nat->List Ox) (o:Ox) (c:Nat × Int):Prop :=
 (o.own=false/\c=(0,o.h))\/(∃ i,i<N/\o=hd i/\c=(1,(i:Int)))\/(∃ i,i<N/\o∈ct i/\c=(2,q.at o 0))
theorem Wk.count (K:Wk t n k m q nx gen ls N lf hd ct) (S:Tm q ls N hd ct os ks) (cv:X8 n q ls) (hn:n<=65535) (hF:q.F=[]):n<=os.length+N+ks.length:=by
 have one:∀ o∈ls,∀ o'∈ls,∀ c,Names q N hd ct o c->Names q N hd ct o' c->o=o':=by
  intro o ho o' ho' c h h'
  rcases h with⟨a1,rfl⟩ | ⟨i,a1,a2,rfl⟩ | ⟨i,a1,a2,rfl⟩
  . rcases h' with⟨b1,b2⟩ | ⟨j,b1,b2,b3⟩ | ⟨j,b1,b2,b3⟩
    . exact K.tm.one hn ho' ho (Prod.mk.inj b2).2
    . exact absurd (Prod.mk.inj b3).1 (by decide)
    . exact absurd (Prod.mk.inj b3).1 (by decide)
  . rcases h' with⟨b1,b2⟩ | ⟨j,b1,b2,b3⟩ | ⟨j,b1,b2,b3⟩
    . exact absurd (Prod.mk.inj b2).1 (by decide)
    . have:=(Prod.mk.inj b3).2
      obtain rfl:i=j:=by omega
      exact a2.trans b2.symm
    . exact absurd (Prod.mk.inj b3).1 (by decide)
  . rcases h' with⟨b1,b2⟩ | ⟨j,b1,b2,b3⟩ | ⟨j,b1,b2,b3⟩
    . exact absurd (Prod.mk.inj b2).1 (by decide)
    . exact absurd (Prod.mk.inj b3).1 (by decide)
    . have e:=(Prod.mk.inj b3).2
      have h1:=K.of i a1 _ ⟨o,a2,rfl⟩
      have h2:=K.of j b1 _ ⟨o',b2,rfl⟩
      rw[e,h2] at h1
      subst h1
      exact Ua (K.ch j b1).so o a2 o' b2 e
 have nd:(List.range n).Nodup:=List.nodup_range
 have:=LH (fun x c=>∃ o∈ls,o.x=x/\Names q N hd ct o c) (List.range n) (os.map (fun p=>(0,p.1)) ++ ((List.range N).map (fun(i:Nat)=>(1,(i:Int))) ++ ks.map (fun x=>(2,x)))) nd ?_ ?_
 . simp only[List.length_append,List.length_map,List.length_range] at this
   omega
 . intro x hx
   rcases cv x (List.mem_range.1 hx) with h | ⟨o,ho,e⟩
   . rw[hF] at h;cases h
   . cases hw:o.own with
     | false=>exact⟨(0,o.h),by
      have hm:=(S.om o.h (q.ws o)).2 ⟨o,ho,hw,rfl,rfl⟩
      exact List.mem_append_left _ (List.mem_map.2 ⟨_,hm,rfl⟩),o,ho,e,Or.inl ⟨hw,rfl⟩⟩
     | true =>
      obtain⟨i,hi,hm⟩:=K.pl o ho hw
      rcases List.mem_cons.1 hm with h | h
      . exact⟨(1,(i:Int)),List.mem_append_right _ (List.mem_append_left _ (List.mem_map.2 ⟨i,List.mem_range.2 hi,rfl⟩)),o,ho,e,Or.inr (Or.inl ⟨i,hi,h,rfl⟩)⟩
      . exact⟨(2,q.at o 0),List.mem_append_right _ (List.mem_append_right _ (List.mem_map.2 ⟨_,(S.km _).2 ⟨i,hi,o,h,rfl⟩,rfl⟩)),o,ho,e,Or.inr (Or.inr ⟨i,hi,h,rfl⟩)⟩
 . rintro x - x' - c ⟨o,ho,e,h⟩ ⟨o',ho',e',h'⟩
   rw[<- e,<- e',one o ho o' ho' c h h']
theorem Wk.loose (K:Wk t n k m q nx gen ls N lf hd ct) (S:Tm q ls N hd ct os ks) (cv:X8 n q ls) (hn:n<=65535) (hk:4<=k) (hx:nx<=3) (h:os.length+N+ks.length<n):¬ Ry q:=fun ht=>by
 have:=K.count S cv hn (K.tm.loose hk hx ht)
 omega
end
end Go.Proofs.YtgehjolndmgffaaGreat
