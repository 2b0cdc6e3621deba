import Derived.Test.YtpbghmeikcphnaaGreatLstTidy
namespace Go.Proofs.YtpbghmeikcphnaaGreat
open Go.RowKit
def XM (z:Nat->Bool) (ln:Nat):Nat:=tot (fun i=>if z i then 1 else 0) ln
section
variable {t n k m σ:Nat} {q:Q} {h:Gh} {jb:Nat->Jb} {hd:Nat} {F:List Nat} {u:Hi} {ts:Nat->Option (Cl × Option Rs)} {ln:Nat} {z:Nat->Bool}
theorem Tidy.keys (T:Tidy h) (X:Lc t n k m q σ h jb hd F u ts) (hz:∀ x:Int,0<=x->(u.S σ x↔∃ i,i<ln/\x=(i:Nat)/\z i=true)):F.length=1+XM z ln:=by
 obtain⟨D,eF⟩:=X.l.l.hf
 have so:=X.l.l.so
 rw[eF] at so
 have hh:h.ky hd hd=-1:=by unfold Gh.ky;rw[if_pos rfl]
 obtain⟨s1,s2⟩:=List.pairwise_cons.mp so
 have k0:∀ c,c∈D->0<=h.ky hd c:=fun c hc=>by have:=s1 c hc;omega
 have kY:∀ c,c∈D->u.S σ (h.ky hd c):=fun c hc=>(X.l.S _ (k0 c hc)).2 ⟨c,by rw[eF];exact List.mem_cons_of_mem _ hc,rfl,T.un X (by rw[eF];exact List.mem_cons_of_mem _ hc)⟩
 have a1:=TF (k:=ln) (c:=1) (D.map fun c=>(h.ky hd c).toNat) (fun i=>if z i then 1 else 0) (List.pairwise_map.mpr (s2.imp_of_mem (fun {a b} ha hb hlt e=>by have:=k0 a ha;have:=k0 b hb;omega))) (fun i hi=>by
  obtain⟨c,hc,rfl⟩:=List.mem_map.mp hi
  obtain⟨i,h1,h2,h3⟩:=(hz _ (k0 c hc)).1 (kY c hc)
  have e:(h.ky hd c).toNat=i:=by omega
  simp only[e,h3,if_true]
  exact⟨h1,Nat.le_refl _⟩)
 have a2:=Wy (fun i=>if z i then 1 else 0) ln (D.map fun c=>(h.ky hd c).toNat) (fun i hi=>by
  cases hzi:z i with
  | false=>left;simp
  | true =>
   right
   refine⟨by simp,List.mem_map.mpr ?_⟩
   obtain⟨c,hc,e,-⟩:=(X.l.S i (by omega)).1 ((hz i (by omega)).2 ⟨i,hi,rfl,hzi⟩)
   rw[eF] at hc
   rcases List.mem_cons.mp hc with r | r
   . rw[r,hh] at e;omega
   . exact⟨c,r,by omega⟩)
 rw[List.length_map] at a1 a2
 rw[eF,List.length_cons]
 unfold XM
 omega
theorem IP (f:Nat->Nat) (i v:Nat):∀ k,tot (upd f i v) k+(if i<k then f i else 0)=tot f k+(if i<k then v else 0)
 | 0=>by simp[tot]
 | k+1=>by
  have ih:=IP f i v k
  show tot (upd f i v) k+upd f i v k+_=tot f k+f k+_
  by_cases e:k=i
  . subst e
    rw[upd_same]
    simp only[Nat.lt_irrefl,if_false,Nat.lt_succ_self,if_true] at ih ⊢
    omega
  . rw[Z7 _ _ _ _ e]
    by_cases hl:i<k
    . rw[if_pos hl,if_pos hl] at ih
      rw[if_pos (by omega),if_pos (by omega)]
      omega
    . rw[if_neg hl,if_neg hl] at ih
      rw[if_neg (by omega),if_neg (by omega)]
      omega
theorem UM (i:Nat) (b:Bool) (hi:i<ln):XM (upd z i b) ln+(if z i then 1 else 0)=XM z ln+(if b then 1 else 0):=by
 have h1:=IP (fun i=>if z i then 1 else 0) i (if b then 1 else 0) ln
 rw[if_pos hi,if_pos hi] at h1
 have e:(fun j=>if upd z i b j then 1 else 0)=upd (fun i=>if z i then 1 else 0) i (if b then 1 else 0):=by
  funext j
  by_cases e:j=i
  . subst e;rw[upd_same,upd_same]
  . rw[Z7 _ _ _ _ e,Z7 _ _ _ _ e]
 unfold XM
 rw[e];exact h1
end
end Go.Proofs.YtpbghmeikcphnaaGreat
