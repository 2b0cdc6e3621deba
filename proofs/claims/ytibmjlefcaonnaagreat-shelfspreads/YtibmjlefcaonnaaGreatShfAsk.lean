import Derived.Test.YtibmjlefcaonnaaGreatShfView
import Derived.Test.YtibmjlefcaonnaaGreatShfMake
namespace Go.Proofs.YtibmjlefcaonnaaGreat
open Go.RowKit
section
section
variable {t n k K Jm J:Nat} {L:Loc} {g p r:Int} {kd key:Int} {hd:Nat} {w:World} {s:Mm} {σ:Nat} {q:Q} {pn:Nat->Int} {h:Gh} {jb:Nat->Jb} {F:List Nat} {u:Hi} {ts:Nat->Option (Cl × Option Rs)} {M:Nat}
theorem Dq (hk:kd=1\/kd=2\/kd=3) (k0:0<=key) (k1:key<1073741824):UW kd key=true:=by
 unfold UW
 rw[decide_eq_true (by omega:1<=kd),decide_eq_true (by omega:kd<=3),decide_eq_true k0,decide_eq_true k1];rfl
theorem Dn {b:Nat} (hm:Z7 w L s) (hb:w.heap.size<=b):¬ L.has b:=fun h=>by have:=hm.lt b h;omega
end
end
section
section
variable {t n k K Jm J M:Nat} {L:Loc} {g p r:Int} {kd key:Int} {w:World} {s:Mm} {σ:Nat} {q:Q} {pv:Nat->Int} {h:Gh} {jb:Nat->Jb} {hd1:Nat} {F1:List Nat} {u:Hi} {ts:Nat->Option (Cl × Option Rs)} {N i:Nat} {hd:Nat->Nat} {P:Nat->Nat->Bool} {F:Nat->List Nat} {S:Nat->Int->Prop}
theorem Rest.some (R:Rest t n k L K Jm J w s σ q pv h jb hd1 F1 u ts) (hJ:J<n):q.F≠[]:=by
 intro e
 have s:=R.lc.m.sum
 have hl:tot h.live h.J<=h.J:=UR (fun i _=>by unfold Gh.live;split <;> omega)
 have z:tot (fun K=>(jb K).g) 4=0:=(Xn (f:=fun _=>0) (g:=fun K=>(jb K).g) (fun K _=>by rw[(R.al K).1];rfl)).trans (PE 4)
 rw[e,z] at s
 have hh:=R.hJ
 have s':0+0+tot h.live h.J=n:=s
 omega
theorem Fin1.ok {S0 S1:Int->Prop} {E v:Int} (f:Fin1 S0 S1 kd key E v q) (h:q.F≠[]):E=0 :=
 Classical.byContradiction fun hE=>h (f.no hE).2.2.2.1
def sZ (t n k:Nat) (L:Loc) (K Jm J N:Nat) (hd:Nat->Nat) (S:Nat->Int->Prop) (i:Nat) (kd key v:Int) (h:Gh) (σ M:Nat) (w':World):Prop :=
 ∃ s' σ' q' pv' h' P' F' S',O9 t n k L K Jm (J+(if kd=2 then 1 else 0)) w' s' σ' q' pv' h' N hd P' F' S'/\((v=1/\(S i key↔kd≠2))\/(v=0/\¬ (S i key↔kd≠2)))/\(∀ x,0<=x->(S' i x↔if kd≠1/\x=key then kd=2 else S i x))/\(∀ a,a≠i->S' a=S a)/\(∀ a,a<N->h'.H (hd a)=h.H (hd a))/\σ<σ'/\σ'<=σ+M
theorem O9.oH (A:O9 t n k L K Jm J w s σ q pv h N hd P F S) (hi:i<N) (hK:K≠3) (vV:J+1<n) {w':World} {s':Mm} {σ':Nat} {q':Q} {pv':Nat->Int} {h':Gh} {CY:Nat->Jb} {F':List Nat} {u':Hi} {ts':Nat->Option (Cl × Option Rs)} {E v:Int}
 (R:Rest t n k L K Jm (J+(if kd=2 then 1 else 0)) w' s' σ' q' pv' h' CY (hd i) F' u' ts') (f:Fin1 (S i) (u'.S σ') kd key E v q') (h1:σ<σ') (h2:σ'<=σ+M) (kp:Oi (h.view (P i)) h' K):E=0/\sZ t n k L K Jm J N hd S i kd key v h σ M w':=by
 have e0:E=0:=f.ok (R.some (by split <;> omega))
 obtain⟨y1,y2⟩:=f.yes e0
 exact⟨e0,s',σ',q',pv',h',_,_,_,A.back hi hK R kp,y1,fun x hx=>by rw[upd_same];exact y2 x hx,fun a ha=>Z8 _ _ _ _ ha,fun a ha=>A.heads ha kp,h1,h2⟩
theorem O9.len (A:O9 t n k L K Jm J w s σ q pv h N hd P F S) (hi:i<N):(F i).length<=n:=(A.rest hi).lc.len
theorem O9.begin {w1:World} {b:Nat} (A:O9 t n k L K Jm J w s σ q pv h N hd P F S) (hi:i<N) (hG:Good t n k 40 g p r) (hn:n<=65535) (EK:J+1<=Jm) (IW:Jm<=97) (hK4:K<4) (hM:60 * (F i).length+2 * k+126<=M) (hk:kd=1\/kd=2\/kd=3) (k0:0<=key) (k1:key<1073741824) (g1:Below w.heap.size w w1) (hb:w.heap.size<=b) (lr:ZH w1 b (.pointer none) (Af kd key (h.H (hd i)))) :
 IX t n k L K Jm J (S i) kd key (h.H (hd i)) (hd i) b M σ w (h.view (P i)) 0 w1 :=
 Rest.begin (A.rest hi) hG hn EK IW hK4 hM hk k0 k1 g1 hb (Dn A.mm hb) lr
theorem O9.done {w':World} {b j:Nat} {H:Int} {w0:World} (A:O9 t n k L K Jm J w s σ q pv h N hd P F S) (hi:i<N) (hK:K≠3) (vV:J+1<n) (D:xK t n k L K Jm J (S i) kd key H (hd i) b M σ j w0 (h.view (P i)) w'):∃ (S2:Lr) (v:Int) (st:Nat),ZH w' b (.pointer none) S2/\S2.kd≠0/\S2.nx=13/\S2.cE=0/\S2.cH=0/\S2.cV=v/\S2.cS=(st:Nat)/\Only L.has w0 w'/\sZ t n k L K Jm J N hd S i kd key v h σ M w':=by
 obtain⟨s',σ',q',pv',h',CY,F',u',ts',S2,E,v,st,R,lr,a1,a2,a3,a4,a5,a6,f,b1,b2,on,-,-,-,kp⟩:=D
 obtain⟨e0,T⟩:=A.oH hi hK vV R f b1 b2 kp
 exact⟨S2,v,st,lr,a1,a2,a3.trans e0,a4,a5,a6,on,T⟩
end
end
end Go.Proofs.YtibmjlefcaonnaaGreat
