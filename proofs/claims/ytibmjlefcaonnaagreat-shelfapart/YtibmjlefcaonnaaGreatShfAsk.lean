import Derived.Test.YtibmjlefcaonnaaGreatShfView
import Derived.Test.YtibmjlefcaonnaaGreatShfMake
namespace Go.Proofs.YtibmjlefcaonnaaGreat
open Go.RowKit
section
set_option maxRecDepth 20000
section
variable {t n k K Jm J:Nat} {L:Loc} {g p r:Int} {kd key:Int} {hd:Nat} {w:World} {s:Mm} {σ:Nat} {q:Q} {pn:Nat->Int} {h:Gh} {jb:Nat->Jb} {F:List Nat} {u:Hi} {ts:Nat->Option (Cl × Option Rs)} {M:Nat}
theorem JY (hk:kd=1\/kd=2\/kd=3) (k0:0<=key) (k1:key<1073741824):Ve kd key=true:=by
 unfold Ve
 rw[decide_eq_true (by omega:1<=kd),decide_eq_true (by omega:kd<=3),decide_eq_true k0,decide_eq_true k1];rfl
theorem SN {b:Nat} (hm:Z7 w L s) (hb:w.heap.size<=b):¬ L.has b:=fun h=>by have:=hm.lt b h;omega
set_option maxRecDepth 20000 in
set_option maxHeartbeats 1000000 in
theorem Gf {w:World} (c0 c1 c2 c3 c4 c5 c6 who:Int) (P:Nat) (kd key H:Int) (Lh:Nat->Prop) (hL:∀ b,w.heap.size<=b->¬ Lh b) (M:Nat) (hM:M<=20000) (hm:Ve kd key=true)
 (I:World->Nat->Nat->World->Prop) (D:World->Nat->Lr->World->Prop)
 (hI:∀ W w1 b,Below w.heap.size w W->Below W.heap.size W w1->W.heap.size<=b->ZI w1 b (.pointer none) (BN kd key H)->I W b 0 w1/\0<M)
 (hS:∀ W j b w1,W.heap.size<=b->I W b j w1->Calls Tryz.prog 17 #[.pointer (some ⟨b,0,none⟩),.agg #[.int .i64 c0,.int .i64 c1,.int .i64 c2,.int .i64 c3,.int .i64 c4,.int .i64 c5,.int .i64 c6,.pointer (some ⟨P,0,none⟩),.int .i64 who]] w1 fun e w'=>(e=.returned (.bool false)/\j+1<M/\I W b (j+1) w')\/(e=.returned (.bool true)/\∃ S,D W b S w'/\ZI w' b (.pointer none) S/\S.kd≠0/\S.nx=13))
 (hO:∀ W j b w1,I W b j w1->Only Lh W w1) (hP:∀ W b S w1,D W b S w1->Only Lh W w1) :
 Calls Tryz.prog 19 #[.agg #[.int .i64 c0,.int .i64 c1,.int .i64 c2,.int .i64 c3,.int .i64 c4,.int .i64 c5,.int .i64 c6,.pointer (some ⟨P,0,none⟩),.int .i64 who],.int .u64 H,.int .i64 kd,.int .i64 key] w fun e w'=>∃ (W:World) (b:Nat) (S:Lr) (w1:World),D W b S w1/\Below w.heap.size w W/\e=.returned (.agg #[.int .i64 S.cE,.int .u64 S.cH,.int .i64 S.cV,.int .i64 S.cS])/\Only (B1 (w.heap.size+1)) w1 w':=by
 have hN:=fun w1=>Oh kd key H hm w1
 clear hm
 have v0:=(ZQ.WZ (w:=w) (P:=P) (c0:=c0) (c1:=c1) (c2:=c2) (c3:=c3) (c4:=c4) (c5:=c5) (c6:=c6) (who:=who) (T:=29) (.cells #[.int .i64 0,.int .u64 0,.int .i64 0,.int .i64 0] 51))
 have d0:=At.Xz w (.cells #[.int .i64 c0,.int .i64 c1,.int .i64 c2,.int .i64 c3,.int .i64 c4,.int .i64 c5,.int .i64 c6,.pointer (some ⟨P,0,none⟩),.int .i64 who] 29) 51 [.int .i64 0,.int .u64 0,.int .i64 0,.int .i64 0]
 have gW:Below w.heap.size w ((w.alloc (.cells #[.int .i64 c0,.int .i64 c1,.int .i64 c2,.int .i64 c3,.int .i64 c4,.int .i64 c5,.int .i64 c6,.pointer (some ⟨P,0,none⟩),.int .i64 who] 29)).alloc (.cells #[.int .i64 0,.int .u64 0,.int .i64 0,.int .i64 0] 51)):=Z5 (Z5 (Below.refl _ _) _) _
 have L0:Hid (¬ Lh w.heap.size/\¬ Lh (w.heap.size+1)):=⟨hL _ (Nat.le_refl _),hL _ (Nat.le_succ _)⟩
 clear hL
 go_enter Tryz.func19,Tryz.ntmps19
 go_wp2_with (go_at_call 23;refine(hN _).mono ?_;rintro e w1 ⟨b,rfl,lr,g1,eb⟩)
 obtain⟨W,hW⟩:∃ W,W=((w.alloc (.cells #[.int .i64 c0,.int .i64 c1,.int .i64 c2,.int .i64 c3,.int .i64 c4,.int .i64 c5,.int .i64 c6,.pointer (some ⟨P,0,none⟩),.int .i64 who] 29)).alloc (.cells #[.int .i64 0,.int .u64 0,.int .i64 0,.int .i64 0] 51)):=⟨_,rfl⟩
 rw[<- hW] at v0 d0 gW g1 eb
 have HI:=hI W
 have HS:=hS W
 have HO:=hO W
 have HP:=hP W
 clear hI hS hO hP hN
 have hbW:W.heap.size<=b:=eb
 clear eb
 obtain⟨i0,hM0⟩:=HI w1 b gW g1 hbW lr
 clear HI lr hW
 go_loopw [11] (fun i wr=>∃ (j:Nat),i=.int .i64 j/\j<M/\I W b j wr) (fun i _=>20000 - (intOf i).toNat)
 case atStart=>exact⟨0,rfl,hM0,i0⟩
 case round =>
  clear i0 g1
  obtain⟨j,rfl,hj,ii⟩:=hrel
  have hj3:(j:Int)<20000:=by omega
  have oo:=HO j b wr ii
  have v:=v0.only oo L0.out.1
  obtain⟨y0,y1,y2,y3,y4,y5,y6,y7,y8⟩:=id v
  have hst:=HS j b wr hbW ii
  clear ii
  go_wp2_with (go_at_call 17;refine hst.mono ?_;rintro e w2 (⟨rfl,hj1,i2⟩ | ⟨rfl,S,dd,lr,hk,hn⟩))
  . go_roundw
    case rel=>exact⟨j+1,by go_num,hj1,i2⟩
    case measure=>simp[intOf];omega
  . have HD:Hid (D W b S w2):=dd
    have hdn:=IP lr hk hn
    have o2:=HP b S w2 dd
    have d2:=d0.only o2 L0.out.2
    clear dd hst lr
    go_wp2_with (go_at_call 18;refine hdn.mono ?_;rintro e w3 ⟨rfl,b3⟩;have j3:=d2.grown b3;have z0:=j3.at0 0 rfl;have z1:=j3.at0 1 rfl;have z2:=j3.at0 2 rfl;have z3:=j3.at0 3 rfl;have qf:=j3.fz)
    refine bodyPost_ret (v:=.agg #[.int .i64 S.cE,.int .u64 S.cH,.int .i64 S.cV,.int .i64 S.cS]) (by simp[results,Tryz.results19,go_sem,z0,z1,z2,z3]) rfl ?_
    exact⟨W,b,S,w2,HD.out,gW,rfl,Zx (Zx (Zx (Zx (Only.ZZ b3) _ _) _ _) _ _) _ _⟩
theorem Dl (R:Rest t n k L K Jm J w s σ q pn h jb hd F u ts) (hG:Good t n k 40 g p r) (hn:n<=65535) (hF:60 * F.length+2 * k+126<=M) (hM:M<=20000) (JZ:J+1<=Jm) (TQ:Jm<=97) (hg:99<=g) (hK4:K<4) (hKt:K<t) (hσ:σ+M<1000000) (hk:kd=1\/kd=2\/kd=3) (k0:0<=key) (k1:key<1073741824) {H:Int} (hH:h.H hd=H) :
 Calls Tryz.prog 19 #[Mc t n k 40 g p r L.p K,.int .u64 H,.int .i64 kd,.int .i64 key] w fun e w'=>∃ (E v:Int) (st:Nat) (s':Mm) (σ':Nat) (q':Q) (YK:Nat->Int) (h':Gh) (Qy:Nat->Jb) (F':List Nat) (u':Hi) (ts':Nat->Option (Cl × Option Rs)),e=.returned (.agg #[.int .i64 E,.int .u64 0,.int .i64 v,.int .i64 st])/\Rest t n k L K Jm (J+(if kd=2 then 1 else 0)) w' s' σ' q' YK h' Qy hd F' u' ts'/\Fin1 (u.S σ) (u'.S σ') kd key E v q'/\σ<σ'/\σ'<=σ+M/\Only L.has w w'/\h'.H hd=H/\PI h h' K:=by
 subst hH
 have hm:=R.mm
 refine(Gf t n k (40:Nat) g p r K L.p kd key (h.H hd) L.has (fun b hb=>SN hm hb) M hM (JY hk k0 k1) (fun W b j w1=>Md t n k L K Jm J (u.S σ) kd key (h.H hd) hd b M σ W h j w1) (fun W b S w1=>∃ s' σ' q' YK h' Qy F' u' ts' E v,∃ st:Nat,Rest t n k L K Jm (J+(if kd=2 then 1 else 0)) w1 s' σ' q' YK h' Qy hd F' u' ts'/\S.cE=E/\S.cH=0/\S.cV=v/\S.cS=st/\Fin1 (u.S σ) (u'.S σ') kd key E v q'/\σ<σ'/\σ'<=σ+M/\Only L.has W w1/\h'.H hd=h.H hd/\PI h h' K) (fun W w1 b gW g1 hb lr=>⟨?_,by omega⟩) (fun W j b w1 hb I=>?_) (fun W j b w1 I=>?_) (fun W b S w1 D=>?_)).mono ?_
 . exact Rest.begin ⟨R.mm.below gW,R.vl,R.lc,R.room,R.hJ,R.al⟩ hG hn JZ TQ hK4 hF hk k0 k1 g1 hb (SN (R.mm.below gW) hb) lr
 . refine(I.step hG hn TQ hg hK4 hKt hσ hb).mono ?_
   rintro e w' (⟨h1,h2,h3⟩ | ⟨h1,s',σ',q',YK,h',Qy,F',u',ts',S,E,v,st,R',lr,hk',hn',a1,a2,a3,a4,a5,a6,a7,a8,a9,-,-,kp⟩)
   . exact Or.inl ⟨h1,h2,h3⟩
   . exact Or.inr ⟨h1,S,⟨s',σ',q',YK,h',Qy,F',u',ts',E,v,st,R',a1,a2,a3,a4,a5,a6,a7,a8,a9,kp⟩,lr,hk',hn'⟩
 . obtain⟨s',σ',q',YK,h',Qy,F',u',ts',C,rs,S,a,ph,-,-,-,-,-,-,-,-,-,-,-,on,-⟩:=I
   exact on
 . obtain⟨s',σ',q',YK,h',Qy,F',u',ts',E,v,st,-,-,-,-,-,-,-,-,on,-⟩:=D
   exact on
 . rintro e w' ⟨W,b,S,w1,⟨s',σ',q',YK,h',Qy,F',u',ts',E,v,st,R',a1,a2,a3,a4,a5,a6,a7,a8,a9,kp⟩,gW,rfl,o1⟩
   refine⟨E,v,st,s',σ',q',YK,h',Qy,F',u',ts',by rw[a1,a2,a3,a4],⟨R'.mm.only o1 (fun x hx e=>SN (w:=w) (b:=w.heap.size+1) hm (by omega) (by rw[<- show x=w.heap.size+1 from e];exact hx)),R'.vl,R'.lc,R'.room,R'.hJ,R'.al⟩,a5,a6,a7,?_,a9,kp⟩
   exact((Only.ZZ gW).trans a8).grow o1 (fun i hi e=>by have:i=w.heap.size+1:=e;omega)
end
end
section
section
variable {t n k K Jm J M:Nat} {L:Loc} {g p r:Int} {kd key:Int} {w:World} {s:Mm} {σ:Nat} {q:Q} {pv:Nat->Int} {h:Gh} {jb:Nat->Jb} {hd1:Nat} {F1:List Nat} {u:Hi} {ts:Nat->Option (Cl × Option Rs)} {N i:Nat} {hd:Nat->Nat} {P:Nat->Nat->Bool} {F:Nat->List Nat} {S:Nat->Int->Prop}
theorem Rest.some (R:Rest t n k L K Jm J w s σ q pv h jb hd1 F1 u ts) (hJ:J<n):q.F≠[]:=by
 intro e
 have s:=R.lc.m.sum
 have hl:tot h.live h.J<=h.J:=UR (fun i _=>by unfold Gh.live;split <;> omega)
 have z:tot (fun K=>(jb K).g) 4=0:=(Xm (f:=fun _=>0) (g:=fun K=>(jb K).g) (fun K _=>by rw[(R.al K).1];rfl)).trans (Pz 4)
 rw[e,z] at s
 have hh:=R.hJ
 have s':0+0+tot h.live h.J=n:=s
 omega
theorem Fin1.ok {S0 S1:Int->Prop} {E v:Int} (f:Fin1 S0 S1 kd key E v q) (h:q.F≠[]):E=0 :=
 Classical.byContradiction fun hE=>h (f.no hE).2.2.2.1
def wH (t n k:Nat) (L:Loc) (K Jm J N:Nat) (hd:Nat->Nat) (S:Nat->Int->Prop) (i:Nat) (kd key v:Int) (h:Gh) (σ M:Nat) (w':World):Prop :=
 ∃ s' σ' q' pv' h' P' F' S',QK t n k L K Jm (J+(if kd=2 then 1 else 0)) w' s' σ' q' pv' h' N hd P' F' S'/\((v=1/\(S i key↔kd≠2))\/(v=0/\¬ (S i key↔kd≠2)))/\(∀ x,0<=x->(S' i x↔if kd≠1/\x=key then kd=2 else S i x))/\(∀ a,a≠i->S' a=S a)/\(∀ a,a<N->h'.H (hd a)=h.H (hd a))/\σ<σ'/\σ'<=σ+M
theorem QK.sQ (A:QK t n k L K Jm J w s σ q pv h N hd P F S) (hi:i<N) (hK:K≠3) (BA:J+1<n) {w':World} {s':Mm} {σ':Nat} {q':Q} {pv':Nat->Int} {h':Gh} {Qy:Nat->Jb} {F':List Nat} {u':Hi} {ts':Nat->Option (Cl × Option Rs)} {E v:Int}
 (R:Rest t n k L K Jm (J+(if kd=2 then 1 else 0)) w' s' σ' q' pv' h' Qy (hd i) F' u' ts') (f:Fin1 (S i) (u'.S σ') kd key E v q') (h1:σ<σ') (h2:σ'<=σ+M) (kp:PI (h.view (P i)) h' K):E=0/\wH t n k L K Jm J N hd S i kd key v h σ M w':=by
 have e0:E=0:=f.ok (R.some (by split <;> omega))
 obtain⟨y1,y2⟩:=f.yes e0
 exact⟨e0,s',σ',q',pv',h',_,_,_,A.back hi hK R kp,y1,fun x hx=>by rw[upd_same];exact y2 x hx,fun a ha=>Z8 _ _ _ _ ha,fun a ha=>A.heads ha kp,h1,h2⟩
theorem QK.len (A:QK t n k L K Jm J w s σ q pv h N hd P F S) (hi:i<N):(F i).length<=n:=(A.rest hi).lc.len
theorem QK.begin {w1:World} {b:Nat} (A:QK t n k L K Jm J w s σ q pv h N hd P F S) (hi:i<N) (hG:Good t n k 40 g p r) (hn:n<=65535) (JZ:J+1<=Jm) (TQ:Jm<=97) (hK4:K<4) (hM:60 * (F i).length+2 * k+126<=M) (hk:kd=1\/kd=2\/kd=3) (k0:0<=key) (k1:key<1073741824) (g1:Below w.heap.size w w1) (hb:w.heap.size<=b) (lr:ZI w1 b (.pointer none) (BN kd key (h.H (hd i)))) :
 Md t n k L K Jm J (S i) kd key (h.H (hd i)) (hd i) b M σ w (h.view (P i)) 0 w1 :=
 Rest.begin (A.rest hi) hG hn JZ TQ hK4 hM hk k0 k1 g1 hb (SN A.mm hb) lr
theorem QK.done {w':World} {b j:Nat} {H:Int} {w0:World} (A:QK t n k L K Jm J w s σ q pv h N hd P F S) (hi:i<N) (hK:K≠3) (BA:J+1<n) (D:xQ t n k L K Jm J (S i) kd key H (hd i) b M σ j w0 (h.view (P i)) w'):∃ (S2:Lr) (v:Int) (st:Nat),ZI w' b (.pointer none) S2/\S2.kd≠0/\S2.nx=13/\S2.cE=0/\S2.cH=0/\S2.cV=v/\S2.cS=(st:Nat)/\Only L.has w0 w'/\wH t n k L K Jm J N hd S i kd key v h σ M w':=by
 obtain⟨s',σ',q',pv',h',Qy,F',u',ts',S2,E,v,st,R,lr,a1,a2,a3,a4,a5,a6,f,b1,b2,on,-,-,-,kp⟩:=D
 obtain⟨e0,T⟩:=A.sQ hi hK BA R f b1 b2 kp
 exact⟨S2,v,st,lr,a1,a2,a3.trans e0,a4,a5,a6,on,T⟩
theorem QK.ask (A:QK t n k L K Jm J w s σ q pv h N hd P F S) (hi:i<N) (hK:K≠3) (hG:Good t n k 40 g p r) (hn:n<=65535) (BA:J+1<n) (hM:60 * n+2 * k+126<=M) (hM2:M<=20000) (JZ:J+1<=Jm) (TQ:Jm<=97) (hg:99<=g) (hK4:K<4) (hKt:K<t) (hσ:σ+M<1000000) (hk:kd=1\/kd=2\/kd=3) (k0:0<=key) (k1:key<1073741824) {H:Int} (hH:h.H (hd i)=H) :
 Calls Tryz.prog 19 #[Mc t n k 40 g p r L.p K,.int .u64 H,iV kd,iV key] w fun e w'=>∃ (v:Int) (st:Nat),e=.returned (.agg #[iV 0,.int .u64 0,iV v,iV st])/\Only L.has w w'/\wH t n k L K Jm J N hd S i kd key v h σ M w':=by
 have len:=A.len hi
 refine(Dl (A.rest hi) hG hn (by omega:60 * (F i).length+2 * k+126<=M) hM2 JZ TQ hg hK4 hKt hσ hk k0 k1 (H:=H) hH).mono ?_
 rintro e w' ⟨E,v,st,s',σ',q',pv',h',Qy,F',u',ts',rfl,R,f,b1,b2,on,-,kp⟩
 obtain⟨rfl,T⟩:=A.sQ hi hK BA R f b1 b2 kp
 exact⟨v,st,rfl,on,T⟩
end
end
end Go.Proofs.YtibmjlefcaonnaaGreat
