import Derived.Test.YtmnnhjhhhfabiaaGreatCompInvS
import Derived.Test.YtmnnhjhhhfabiaaGreatCompRanch
namespace Go.Proofs.YtmnnhjhhhfabiaaGreat
open Go.RowKit
structure Lu (n : Nat) (q : Q) (gen : Nat -> Nat) (ls : List Ox) (j : Nat) : Prop where
 cv : ∀ x,x < n -> x ∈ q.F \/ ∃ o ∈ ls,o.x = x
 gb : ∀ x,gen x <= j + 1
 db : ∀ i,q.db i = 0
 ow : ∀ o ∈ ls,o.own = false
 ln : ls.length <= j
theorem qG : Lu 30 (Q.new 30) (fun _=>1) [] 0:=⟨fun x hx=>Or.inl ((by decide : ∀ x,x < 30 -> x ∈ Xv 30 30) x hx),fun _=>Nat.le_refl _,fun _=>rfl,fun _ h=>(by cases h),Nat.le_refl _⟩
section
variable {t n k m : Nat} {q : Q} {nx : Nat} {gen : Nat -> Nat} {ls : List Ox} {j : Nat}
theorem Lu.up (V : Lu n q gen ls j) {j' : Nat} (h : j <= j') : Lu n q gen ls j':=⟨V.cv,fun x=>by have:=V.gb x;omega,V.db,V.ow,by have:=V.ln;omega⟩
theorem Lu.made {κ Z : Nat} {q' : Q} {nx' : Nat} {ls' : List Ox} {E H : Int} (V : Lu n q gen ls j) (M : Mk t n k m κ Z false q nx gen ls q' nx' ls' E H) : Lu n q' gen ls' (j + 1):=by
 have hl:=V.ln
 cases M with
 | empty hF=>exact ⟨V.cv,fun x=>by have:=V.gb x;omega,V.db,V.ow,by omega⟩
 | full x F hF g=>exact ⟨fun v hv=>by have:=V.cv v hv;rw [hF] at this;exact this,fun x=>by have:=V.gb x;omega,V.db,V.ow,by omega⟩
 | ok x F y' nx' A i hF hx g =>
  refine ⟨fun v hv=>?_,fun x=>by have:=V.gb x;omega,V.db,fun o ho=>?_,by simp only [List.length_cons];omega⟩
  · rcases V.cv v hv with h | ⟨o,h1,h2⟩
    · rw [hF] at h
      rcases List.mem_cons.1 h with rfl | h
      · exact Or.inr ⟨_,List.mem_cons_self,rfl⟩
      · exact Or.inl h
    · exact Or.inr ⟨o,List.mem_cons_of_mem _ h1,h2⟩
  · rcases List.mem_cons.1 ho with rfl | ho
    · rfl
    · exact V.ow o ho
theorem Lu.gone {cg : Int} {o : Ox} {ls : List Ox} (V : Lu n q gen (o :: ls) j) (hg : gen o.x = o.g) : Lu n (q.gone cg o.x (q.sw o.x) o.Z o.i) (upd gen o.x (o.g + 1)) ([] ++ ls) (j + 1):=by
 have hl:=V.ln
 refine ⟨fun v hv=>?_,fun x=>?_,V.db,fun o' ho=>V.ow o' (List.mem_cons_of_mem _ ho),by simp only [List.length_cons,List.nil_append] at hl ⊢;omega⟩
 · show v ∈ o.x :: q.F \/ _
   rcases V.cv v hv with h | ⟨o',h1,h2⟩
   · exact Or.inl (List.mem_cons_of_mem _ h)
   · rcases List.mem_cons.1 h1 with rfl | h1
     · exact Or.inl (by rw [h2];exact List.mem_cons_self)
     · exact Or.inr ⟨o',h1,h2⟩
 · have:=V.gb o.x
   by_cases e : x = o.x
   · subst e;rw [upd_same];omega
   · rw [Z7 _ _ _ _ e];have:=V.gb x;omega
theorem Si (i N : Nat) : ∀ ls : List Ox,Yk i (ls.filter (fun o=>decide (o.x < N + 1))) = Yk i (ls.filter (fun o=>decide (o.x < N))) + Yk i (ls.filter (fun o=>decide (o.x = N)))
 | []=>rfl
 | o :: l=>by
  have ih:=Si i N l
  by_cases h1 : o.x < N
  · rw [List.filter_cons_of_pos (by simpa using (show o.x < N + 1 by omega)),List.filter_cons_of_pos (by simpa using h1),List.filter_cons_of_neg (by simpa using (show ¬ o.x = N by omega))]
    show _ + Yk i _ = _ + Yk i _ + _
    omega
  · by_cases h2 : o.x = N
    · rw [List.filter_cons_of_pos (by simpa using (show o.x < N + 1 by omega)),List.filter_cons_of_neg (by simpa using h1),List.filter_cons_of_pos (by simpa using h2)]
      show _ + Yk i _ = _ + (_ + Yk i _)
      omega
    · rw [List.filter_cons_of_neg (by simpa using (show ¬ o.x < N + 1 by omega)),List.filter_cons_of_neg (by simpa using h1),List.filter_cons_of_neg (by simpa using h2)]
      exact ih
theorem oV (C : WY t n k m q nx gen ls) (H : TW t n k m q gen ls) (V : Lu n q gen ls j) (hn : n <= 65535) (hA : 6 + t + n * 2 + k * 3 + k * m <= 1048575) : Fk t n k m q 0 n no no:=by
 have free : ∀ x,x < n -> x ∈ q.F -> q.sw x % 8 = 0:=fun x hx h=>by
  rw [C.sw x h,SX _ (C.gb x hx).2];omega
 have al : ∀ o ∈ ls,o.a <= 1048575 /\ o.u < m:=fun o ho=>by
  have K:=C.ok o ho
  have h1:=K.uk
  have h2:=Zv o.κ
  have h3:=Nat.mul_le_mul_right m (show o.i + 1 <= k from K.ik)
  rw [Nat.succ_mul] at h3
  rw [K.ae]
  unfold base
  omega
 have live : ∀ o ∈ ls,q.sw o.x % 8 = 1 /\ ZA (q.sw o.x) = o.a /\ Zz (q.sw o.x) = o.g:=fun o ho=>by
  rw [(C.li o ho).sw]
  obtain ⟨d1,d2,d3,-⟩:=VX (st:=1) (A:=o.a) (G:=o.g) (V:=0) (by decide) (al o ho).1 (C.ok o ho).g2 (by decide)
  exact ⟨d1,d2,d3⟩
 have hon : ∀ o ∈ ls,∀ i,Uh t n k m (q.sw o.x) i = decide (o.i = i):=fun o ho i=>by
  obtain ⟨l1,l2,-⟩:=live o ho
  unfold Uh
  rw [l1,l2,(C.ok o ho).ae,(Xu (al o ho).2).1]
  rfl
 have cnt : ∀ i,∀ N,N <= n -> Yk i (ls.filter (fun o=>decide (o.x < N))) = cN t n k m q.sw i N * room (q.y.ck i).cl:=fun i N=>by
  induction N with
  | zero =>
   intro _
   have : ls.filter (fun o=>decide (o.x < 0)) = []:=List.filter_eq_nil_iff.2 (fun o _=>by simp)
   rw [this]
   show 0 = 0 * _
   rw [Nat.zero_mul]
  | succ N ih =>
   intro hN
   rw [Si,ih (by omega)]
   show _ = (cN t n k m q.sw i N + (Uh t n k m (q.sw N) i).toNat) * _
   rw [Nat.add_mul]
   congr 1
   rcases V.cv N (by omega) with h | ⟨o,ho,rfl⟩
   · have e : ls.filter (fun o=>decide (o.x = N)) = []:=List.filter_eq_nil_iff.2 (fun o ho hh=>(C.li o ho).nf (by rw [show o.x = N by simpa using hh];exact h))
     have h0:=free N (by omega) h
     have e2 : Uh t n k m (q.sw N) i = false:=by unfold Uh;rw [h0];rfl
     rw [e,e2]
     show 0 = 0 * _
     rw [Nat.zero_mul]
   · rw [hon o ho]
     obtain ⟨l1,l2,rfl⟩:=List.append_of_mem ho
     obtain ⟨-,p2,p3⟩:=List.pairwise_append.1 C.pw
     have e1 : l1.filter (fun o'=>decide (o'.x = o.x)) = []:=List.filter_eq_nil_iff.2 (fun o' h hh=>(p3 o' h o List.mem_cons_self).1 (by simpa using hh))
     have e2 : l2.filter (fun o'=>decide (o'.x = o.x)) = []:=List.filter_eq_nil_iff.2 (fun o' h hh=>((List.pairwise_cons.1 p2).1 o' h).1 (by simpa using (show o'.x = o.x by simpa using hh).symm))
     rw [List.filter_append,e1,List.nil_append,List.filter_cons_of_pos (by simp),e2]
     show (if o.i = i then room o.κ else 0) + 0 = _
     by_cases e : o.i = i
     · rw [if_pos e,decide_eq_true e,(H.lp o ho).1,e];simp
     · rw [if_neg e,decide_eq_false e];simp
 refine ⟨fun i hi=>?_,C.dw,fun i hi a ha he=>?_,fun x hx hl=>?_,fun x hx h2=>?_,fun i hi=>?_,fun i _=>V.db i⟩
 · obtain ⟨J,hJ,-⟩:=H.pl i hi
   refine ⟨⟨J,hJ⟩,C.us i hi,fun h0=>?_⟩
   by_cases h : i < nx
   · have:=C.al.EE i h;omega
   · exact (C.al.UH i (by omega) hi).2
 · obtain ⟨J,hJ,hp⟩:=H.pl i hi
   rw [hJ] at ha
   obtain ⟨o,o1,o2,o3,o4,o5,-⟩:=hp a (Nat.lt_of_mul_lt_mul_right ha)
   have hae : base t n k m i + a * room (q.y.ck i).cl = o.a:=by rw [o1.ae,o2,o3]
   have z2:=o1.z2
   have x1:=o1.x1
   obtain ⟨d1,-⟩:=VI (Z:=o.Z) (x:=o.x) (G:=o.g) (own:=o.own) (by omega) (by omega) o1.g2
   obtain ⟨-,d4,-⟩:=VJ (Z:=o.Z) (x:=o.x) (G:=o.g) (own:=o.own) (by omega) (by omega) o1.g2
   unfold Sl
   rw [hae,o5,d1,d4,<- o4]
   exact ⟨o1.z1,z2,o1.kz,x1⟩
 · rcases V.cv x hx with h | ⟨o,ho,rfl⟩
   · have:=free x hx h
     exact absurd hl (by unfold Lv;omega)
   · have K:=C.ok o ho
     have I:=C.li o ho
     obtain ⟨l1,l2,l3⟩:=live o ho
     obtain ⟨p1,p2⟩:=H.lp o ho
     have h2:=Zv o.κ
     have h3:=I.us
     have z2:=K.z2
     obtain ⟨a1,a2,a3⟩:=VJ (Z:=o.Z) (x:=o.x) (G:=o.g) (own:=o.own) (by omega) (by omega) K.g2
     refine ⟨o.i,o.u,K.ik,l2.trans K.ae,by rw [<- p1];exact p2,by omega,Or.inl ?_,Or.inr ?_⟩
     · by_cases h : o.i < nx
       · exact C.al.EE _ h
       · have:=(C.al.UH o.i (by omega) K.ik).2;omega
     · rw [<- K.ae,I.hw,l3];exact ⟨a1,a2,a3⟩
 · rcases V.cv x hx with h | ⟨o,ho,rfl⟩
   · have:=free x hx h;omega
   · have:=(live o ho).1;omega
 · have h:=cnt i n (Nat.le_refl _)
   have e : ls.filter (fun o=>decide (o.x < n)) = ls:=List.filter_eq_self.2 (fun o ho=>by simpa using (C.ok o ho).x1)
   rw [e,<- C.lv i hi] at h
   exact h
end
end Go.Proofs.YtmnnhjhhhfabiaaGreat
