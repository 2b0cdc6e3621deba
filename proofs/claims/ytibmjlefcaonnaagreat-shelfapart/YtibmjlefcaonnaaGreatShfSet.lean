import Derived.Test.YtibmjlefcaonnaaGreatShfAsk
import Derived.Test.YtibmjlefcaonnaaGreatShfLeaf
namespace Go.Proofs.YtibmjlefcaonnaaGreat
open Go.RowKit
def JU (n k N Jm J:Nat) (L:Loc) (w:World) (σm:Nat) (S:Nat->Int->Prop):Prop :=
 ∃ s σ q pv h hd P F,QK 1 n k L 0 Jm J w s σ q pv h N hd P F S/\(∀ a,a<N->h.H (hd a)=65536+(a:Int))/\σ<=σm
def Ez (n k N Jm J:Nat) (L:Loc) (w:World) (σm:Nat) (S:Nat->Int->Prop) (i:Nat) (kd key v:Int):Prop :=
 ∃ S',JU n k N Jm (J+(if kd=2 then 1 else 0)) L w σm S'/\((v=1/\(S i key↔kd≠2))\/(v=0/\¬ (S i key↔kd≠2)))/\(∀ x,0<=x->(S' i x↔if kd≠1/\x=key then kd=2 else S i x))/\(∀ a,a≠i->S' a=S a)
def ER (n k N Jm J:Nat) (L:Loc) (W:World) (σm:Nat) (S:Nat->Int->Prop) (i:Nat) (kd key:Int) (b M j:Nat) (w1:World):Prop :=
 ∃ s σ q pv h hd P F,QK 1 n k L 0 Jm J W s σ q pv h N hd P F S/\(∀ a,a<N->h.H (hd a)=65536+(a:Int))/\σ<=σm/\Md 1 n k L 0 Jm J (S i) kd key (h.H (hd i)) (hd i) b M σ W (h.view (P i)) j w1
section
variable {n k N Jm J M σm:Nat} {L:Loc} {w w':World} {S:Nat->Int->Prop} {i:Nat} {kd key v:Int}
theorem JU.grown (A:JU n k N Jm J L w σm S) (g:Below w.heap.size w w'):JU n k N Jm J L w' σm S:=by
 obtain⟨s,σ,q,pv,h,hd,P,F,A,hH,hs⟩:=A
 exact⟨s,σ,q,pv,h,hd,P,F,{ A with mm:=A.mm.below g },hH,hs⟩
theorem JU.lt (A:JU n k N Jm J L w σm S) {x:Nat} (hx:L.has x):x<w.heap.size:=by
 obtain⟨s,σ,q,pv,h,hd,P,F,A,hH,hs⟩:=A
 exact A.mm.lt _ hx
theorem Ez.of {σ:Nat} {h:Gh} {hd:Nat->Nat} (A:wH 1 n k L 0 Jm J N hd S i kd key v h σ M w) (hH:∀ a,a<N->h.H (hd a)=65536+(a:Int)) (hs:σ<=σm):Ez n k N Jm J L w (σm+M) S i kd key v:=by
 obtain⟨s',σ',q',pv',h',P',F',S',A',a1,a2,a3,a4,a5,a6⟩:=A
 exact⟨S',⟨s',σ',q',pv',h',hd,P',F',A',fun a ha=>(a4 a ha).trans (hH a ha),by omega⟩,a1,a2,a3⟩
theorem JU.ask {g p r:Int} (A:JU n k N Jm J L w σm S) (hi:i<N) (hG:Good 1 n k 40 g p r) (hn:n<=65535) (BA:J+1<n) (hM:60 * n+2 * k+126<=M) (hM2:M<=20000) (JZ:J+1<=Jm) (TQ:Jm<=97) (hg:99<=g) (hσ:σm+M<1000000) (hk:kd=1\/kd=2\/kd=3) (k0:0<=key) (k1:key<1073741824) :
 Calls Tryz.prog 19 #[Mc 1 n k 40 g p r L.p 0,.int .u64 (65536+(i:Int)),iV kd,iV key] w fun e w'=>∃ (v st:Int),e=.returned (.agg #[iV 0,.int .u64 0,iV v,iV st])/\Only L.has w w'/\Ez n k N Jm J L w' (σm+M) S i kd key v:=by
 obtain⟨s,σ,q,pv,h,hd,P,F,A,hH,hs⟩:=A
 refine(A.ask hi (by decide) hG hn BA hM hM2 JZ TQ hg (by decide) (by decide) (by omega) hk k0 k1 (hH i hi)).mono ?_
 rintro e w' ⟨v,st,rfl,on,T⟩
 exact⟨v,st,rfl,on,Ez.of T hH hs⟩
theorem xh {n k:Nat} (h1:1<=n) (h2:n<=60) (h3:1<=k) (h4:k<=16):Good 1 n k 40 100 600 3:=⟨by decide,by decide,by omega,by omega,by omega,by omega,by decide,by decide,by decide,by decide,by decide,by decide,by decide,by decide⟩
theorem ER.first {s:Mm} {σ:Nat} {q:Q} {g p r:Int} {w1:World} {b:Nat} (A:UN 1 n k 40 N q) (hk0:1<=k) (h3:N<=13) (hN:N≠0) (mm:Z7 w L s) (vl:XF 1 n k 40 s σ q (fun _=>0)) (ug:3 * Jm<(k - 2) * 38) (hσ:σ<=σm) (hi:i<N) (hG:Good 1 n k 40 g p r) (hn:n<=65535) (hM:60+2 * k+126<=M) (JZ:N+1<=Jm) (TQ:Jm<=97) (hk:kd=1\/kd=2\/kd=3) (k0:0<=key) (k1:key<1073741824) (g1:Below w.heap.size w w1) (hb:w.heap.size<=b) (lr:ZI w1 b (.pointer none) (BN kd key (65536+(i:Int)))):ER n k N Jm N L w σm (fun _ _=>False) i kd key b M 0 w1:=by
 have B:=A.oZ (K:=0) (L:=L) hk0 h3 hN mm vl ug
 have hH:∀ a,a<N->(zH 1 n k 40 N).H a=65536+(a:Int):=fun a ha=>Bv (by omega)
 exact⟨s,σ,q,_,_,_,_,_,B,hH,hσ,B.begin hi hG hn JZ TQ (by decide) (by show 60 * 1+2 * k+126<=M;omega) hk k0 k1 g1 hb (by rw[hH i hi];exact lr)⟩
theorem ER.only {b j:Nat} {w1:World} (I:ER n k N Jm J L w σm S i kd key b M j w1):Only L.has w w1:=by
 obtain⟨s,σ,q,pv,h,hd,P,F,A,hH,hs,s',σ',q',YK,h',Qy,F',u',ts',C,rs,S2,a,ph,-,-,-,-,-,-,-,-,-,-,-,on,-⟩:=I
 exact on
theorem ER.step {g p r:Int} {w1:World} {b j:Nat} (I:ER n k N Jm J L w σm S i kd key b M j w1) (hi:i<N) (hG:Good 1 n k 40 g p r) (hn:n<=65535) (BA:J+1<n) (TQ:Jm<=97) (hg:99<=g) (hσ:σm+M<1000000) (hb:w.heap.size<=b) :
 Calls Tryz.prog 17 #[pP b 0,Mc 1 n k 40 g p r L.p 0] w1 fun e w'=>(e=.returned (.bool false)/\j+1<M/\ER n k N Jm J L w σm S i kd key b M (j+1) w')\/(e=.returned (.bool true)/\Only L.has w w'/\∃ (v:Int),(∃ S2,ZI w' b (.pointer none) S2/\S2.kd≠0/\S2.nx=13/\S2.cE=0/\S2.cH=0/\S2.cV=v)/\Ez n k N Jm J L w' (σm+M) S i kd key v):=by
 obtain⟨s,σ,q,pv,h,hd,P,F,A,hH,hs,I⟩:=I
 refine(I.step hG hn TQ hg (by decide) (by decide) (by omega) hb).mono ?_
 rintro e w' (⟨rfl,hj,I'⟩ | ⟨rfl,D⟩)
 . exact Or.inl ⟨rfl,hj,s,σ,q,pv,h,hd,P,F,A,hH,hs,I'⟩
 . obtain⟨S2,v,st,lr,b1,b2,b3,b4,b5,b6,on,T⟩:=A.done hi (by decide) BA D
   exact Or.inr ⟨rfl,on,v,⟨S2,lr,b1,b2,b3,b4,b5⟩,Ez.of T hH hs⟩
theorem Ez.has {p:Nat} (A:Ez n k N Jm J L w σm S i 1 key v) (h:∀ a,a<N->(S a key↔a=p)) (hi:i<N) (k0:0<=key):v=(if i=p then 1 else 0)/\∃ S',JU n k N Jm J L w σm S'/\∀ a,a<N->(S' a key↔a=p):=by
 obtain⟨S',A',a1,a2,a3⟩:=A
 refine⟨?_,S',A',fun a ha=>?_⟩
 . rw[h i hi] at a1
   by_cases e:i=p
   . rw[if_pos e]
     rcases a1 with⟨a1,-⟩ | ⟨-,a1⟩
     . exact a1
     . exact absurd (iff_of_true e (by decide)) a1
   . rw[if_neg e]
     rcases a1 with⟨-,a1⟩ | ⟨a1,-⟩
     . exact absurd (a1.2 (by decide)) e
     . exact a1
 . by_cases e:a=i
   . rw[e,a2 key k0,if_neg (fun hh=>absurd rfl hh.1)];exact h i hi
   . rw[a3 a e];exact h a ha
theorem Ez.added {p:Nat} (A:Ez n k N Jm J L w σm (fun _ _=>False) p 2 key v) (k0:0<=key):∃ S',JU n k N Jm (J+1) L w σm S'/\∀ a,a<N->(S' a key↔a=p):=by
 obtain⟨S',A',a1,a2,a3⟩:=A
 refine⟨S',A',fun a ha=>?_⟩
 by_cases e:a=p
 . rw[e,a2 key k0,if_pos ⟨by decide,rfl⟩];exact iff_of_true rfl rfl
 . rw[a3 a e];exact iff_of_false id e
end
end Go.Proofs.YtibmjlefcaonnaaGreat
