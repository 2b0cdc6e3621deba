import Derived.Test.YtgehjolndmgffaaGreatFrmPlay
import Derived.Test.YtgehjolndmgffaaGreatWrkGo
import Derived.Test.YtgehjolndmgffaaGreatAllocSound
namespace Go.Proofs.YtgehjolndmgffaaGreat
open Go.RowKit
section
theorem QX (h:Int) (ws:List Int):∀ (b:Bool) (os:Os),(Yz h ws b os).length<=os.length+(if b then 0 else 1)
 | b,[]=>by unfold Yz;cases b <;> simp
 | b,(a,u) :: l=>by
  have ih:=QX h ws (b || decide (h<=a)) l
  unfold Yz
  simp only[List.length_append,List.length_cons]
  by_cases hl:b=false/\h<=a
  . rw[if_pos hl]
    obtain⟨rfl,hl⟩:=hl
    rw[decide_eq_true hl] at ih ⊢
    have:(if a≠h then [(a,u)] else []).length<=1:=by split <;> simp
    simp at ih ⊢
    simp at this
    omega
  . rw[if_neg hl]
    have:(if a≠h then [(a,u)] else []).length<=1:=by split <;> simp
    cases b with
    | true=>simp at ih this ⊢;omega
    | false =>
     have hd:decide (h<=a)=false:=decide_eq_false fun e=>hl ⟨rfl,e⟩
     rw[hd] at ih ⊢
     simp at ih this ⊢;omega
theorem Qa (x:Int):∀ (b:Bool) (ks:List Int),(Xj x b ks).length<=ks.length+(if b then 0 else 1)
 | b,[]=>by unfold Xj;cases b <;> simp
 | b,a :: l=>by
  have ih:=Qa x (b || decide (x<=a)) l
  unfold Xj
  simp only[List.length_append,List.length_cons]
  by_cases hl:b=false/\x<=a
  . rw[if_pos hl]
    obtain⟨rfl,hl⟩:=hl
    rw[decide_eq_true hl] at ih ⊢
    have:(if a≠x then [a] else []).length<=1:=by split <;> simp
    simp at ih ⊢
    simp at this
    omega
  . rw[if_neg hl]
    have:(if a≠x then [a] else []).length<=1:=by split <;> simp
    cases b with
    | true=>simp at ih this ⊢;omega
    | false =>
     have hd:decide (x<=a)=false:=decide_eq_false fun e=>hl ⟨rfl,e⟩
     rw[hd] at ih ⊢
     simp at ih this ⊢;omega
theorem Et {kd sz ix vl ol ky h E H V:Int} {os os':Os} {ks ks':List Int} {b:Bool} (e:X3 kd sz ix vl ol ky h E H V os ks=((os',ks'),b)):os'.length<=os.length+1/\ks'.length<=ks.length+1:=by
 have hw:∀ h ws,(Yz h ws false os).length<=os.length+1:=fun h ws=>QX h ws false os
 have hp:=Qa ky false ks
 have hf:(YS h os).length<=os.length:=List.length_filter_le _ _
 have hg:(ks.filter fun a=>decide (a≠ky)).length<=ks.length:=List.length_filter_le _ _
 unfold X3 at e
 repeat' (split at e)
 all_goals (simp only[Prod.mk.injEq] at e;obtain⟨⟨rfl,rfl⟩,-⟩:=e)
 all_goals (constructor <;> first | omega | exact Nat.le_succ _ | exact hw _ _ | exact hp | exact Nat.le_trans hf (Nat.le_succ _) | exact Nat.le_trans hg (Nat.le_succ _))
end
section
set_option maxRecDepth 20000
def Bg (L:Loc) (bS:Nat) (w w':World):Prop:=∃ Bs σ,Ar L w' σ 1 [] []/\Sh w' L Bs bS 3/\σ<=2000/\∀ x,L.has x->w.heap.size<=x
theorem Sh.wz {w w':World} {L:Loc} {B0 b N:Nat} {S:Nat->Prop} (h:Sh w L B0 b N) (o:Only S w w') (hs:∀ x,B0<=x->¬ S x):Sh w' L B0 b N:=⟨by obtain⟨c,v,a,k,n⟩:=h.ex;exact⟨c,v,a.only o (hs b h.ge),k.only o (fun x hx=>hs x (n x hx).2.1),n⟩,h.nb,h.ge,h.le⟩
set_option maxRecDepth 20000 in
set_option maxHeartbeats 1000000 in
theorem Qh (w:World):Calls Tryz.prog 7 #[iV 1] w fun e w'=>∃ L bS,e=.returned (.tuple #[QZ L,pP bS 0,.bool true])/\Bg L bS w w'/\Below w.heap.size w w':=by
 have HG:Hid (Good 1 30 16 40 100 600 3):=OZ
 have ar:=fun w=>Ez HG.out (by decide) w
 have aN:=At.new w 27 [iV 0,iV 0,iV 0,iV 0,iV 0,iV 0,iV 0,.pointer none,iV 0]
 go_enter Tryz.func7,Tryz.ntmps7
 go_wp2_with (first
  | (go_at_call 20;refine(ar _).mono ?_;rintro e w1 ⟨L,s,rfl,m1,v1,b1,l1⟩;have vN:=(ZP.new (w:=w1) (P:=L.p) (c0:=1) (c1:=30) (c2:=16) (c3:=40) (c4:=100) (c5:=600) (c6:=3) (who:=0) (T:=27));obtain⟨y0,y1,y2,y3,y4,y5,y6,y7,y8⟩:=id vN)
  | (go_at_call 21;refine(G8 (hds0 (t:=1) (n:=30) (k:=16) (m:=40)) (m1.alloc _) v1 HG.out (by decide) (K:=3) (by decide) (by decide) (by decide) 0 (by decide) (by decide)).mono ?_;rintro e w2 ⟨s2,σ2,q2,bz,rfl,m2,v2,hs2,o2,S2,A2⟩;have hLx:¬ L.has w1.heap.size:=fun hh=>(by have:=m1.lt _ hh;omega);have hL0:¬ L.has w.heap.size:=fun hh=>(by have:=l1 _ hh;rw[Go.Deep.nblk_alloc] at this;omega);have vM:=vN.only o2 hLx;obtain⟨y0,y1,y2,y3,y4,y5,y6,y7,y8⟩:=id vM;have aR:=((aN.grown b1).grown (ZZ w1 (.cells #[iV 1,iV 30,iV 16,iV 40,iV 100,iV 600,iV 3,pP L.p 0,iV 0] 27))).only o2 hL0;have q0:=aR.at0 0 rfl;have q1:=aR.at0 1 rfl;have q2':=aR.at0 2 rfl;have q3:=aR.at0 3 rfl;have q4:=aR.at0 4 rfl;have q5:=aR.at0 5 rfl;have q6:=aR.at0 6 rfl;have q7:=aR.at0 7 rfl;have q8:=aR.at0 8 rfl;have kf:=aR.fz))
 have B2:Below w.heap.size w w2:=JA (grow (grow (ZZ w _) b1) (ZZ w1 _)) o2 (fun x hx=>Nat.le_trans (ZZ w _).size (l1 x hx))
 have hLw:∀ x,L.has x->w.heap.size<=x:=fun x hx=>Nat.le_trans (ZZ w _).size (l1 x hx)
 have oR:=((((((((((Only.refl (fun x=>x=w.heap.size) w2).setCell (a:=⟨w.heap.size,0,none⟩) (fun _=>rfl) (iV 1)).setCell (a:=⟨w.heap.size,1,none⟩) (fun _=>rfl) (iV 30)).setCell (a:=⟨w.heap.size,2,none⟩) (fun _=>rfl) (iV 16)).setCell (a:=⟨w.heap.size,3,none⟩) (fun _=>rfl) (iV 40)).setCell (a:=⟨w.heap.size,4,none⟩) (fun _=>rfl) (iV 100)).setCell (a:=⟨w.heap.size,5,none⟩) (fun _=>rfl) (iV 600)).setCell (a:=⟨w.heap.size,6,none⟩) (fun _=>rfl) (iV 3)).setCell (a:=⟨w.heap.size,7,none⟩) (fun _=>rfl) (pP L.p 0)).setCell (a:=⟨w.heap.size,8,none⟩) (fun _=>rfl) (iV 0))
 refine bodyPost_ret (v:=.tuple #[QZ L,pP bz 0,.bool true]) (by simp[results,Tryz.results7,go_sem,q0,q1,q2',q3,q4,q5,q6,q7,q8]) rfl ⟨L,bz,rfl,⟨_,σ2,?_,S2.wz oR (fun x hx e=>?_),?_,hLw⟩,B2.trans (oR.below B2.size (fun i hi hs=>absurd hs (by omega)))⟩
 . have oz:∀ x,L.has x->¬ (x=w.heap.size):=fun x hx e=>hL0 (e ▸ hx)
   obtain⟨K,S⟩:=A2.wk (by decide) (by decide) lf3
   exact(Ar.only (S:=fun x=>x=w.heap.size) ⟨s2,q2,1,fun _=>1,_,fun _=>[],⟨m2,v2,K.tm,A2.covers⟩,K,S,fun _=>Nat.le_refl _,Nat.le_refl _⟩ oR oz)
 . have:=b1.size;rw[Go.Deep.nblk_alloc] at this hx;omega
 . omega
end
section
def AB (Wn:World) (FS:Nat->Prop) (B0:Nat) (L:Loc) (bS b:Nat) (cs:List Wc) (Q:Nat->List Td->Os->List Int->Prop) (HS:Nat->List Td->Int) (m i σ:Nat) (w:World):Prop :=
 ∃ B j ts os ks,SV.b B=b/\Q j ts os ks/\j<=cs.length /\
  ((AO Wn FS B0 L bS cs B j ts os ks (j+1) w σ/\i<=m * j)\/(j<cs.length/\∃ c σ0 R,yU Wn FS B0 L bS cs B j ts os ks (j+1) c (HS j ts) σ0 R w σ/\i+R+1<=m * (j+1)))
def GZ (Wn:World) (FS:Nat->Prop) (B0:Nat) (L:Loc) (bS b:Nat) (cs:List Wc) (Q:Nat->List Td->Os->List Int->Prop) (HS:Nat->List Td->Int) (m σb i:Nat) (w:World):Prop :=
 ∃ σ,σ<=σb+i/\AB Wn FS B0 L bS b cs Q HS m i σ w
structure BJ (Wn:World) (FS:Nat->Prop) (B0:Nat) (L:Loc) (bS b:Nat) (cs:List Wc) (Q:Nat->List Td->Os->List Int->Prop) (HS:Nat->List Td->Int) (m:Nat) (mv:Value):Prop where
 hn:cs.length<=40
 hq:∀ j ts os ks c E H V St σ0 σ' os' ks',Q j ts os ks->ts.length=j->cs[j]?=some c->vY c (HS j ts) os ks (j+1) E H V os' ks'->Q (j+1) (ts ++ [⟨0,j,c,HS j ts,E,H,V,St,σ0,σ'⟩]) os' ks'
 hm:∀ j ts os ks,Q j ts os ks->j<cs.length->93+16 * ks.length<=m
 may:∀ c∈cs,c.may=true/\Fit c.sz
 wd:∀ j ts os ks,Q j ts os ks->ts.length=j->j<cs.length->Wd (HS j ts)
 hr:∀ (B:SV) j ts os ks c (w w1:World),B.b=b->Q j ts os ks->ts.length=j->cs[j]?=some c->(∃ qs d,XP w B0 B 0 (some ⟨bS,0,none⟩) cs qs .nilIface d ts)->Only (fun x=>x=B.Q.c) w w1->Only FS Wn w1->Calls Tryz.prog 42 #[c.rf,mv] w1 fun e w'=>e=.returned (.int .u64 (HS j ts))/\Below w1.heap.size w1 w'
section
variable {Wn:World} {FS:Nat->Prop} {B0:Nat} {L:Loc} {bS b:Nat} {cs:List Wc} {Q:Nat->List Td->Os->List Int->Prop} {HS:Nat->List Td->Int} {m σb i:Nat} {w:World} {mv:Value}
theorem AB.le {σ:Nat} (R:AB Wn FS B0 L bS b cs Q HS m i σ w):i<=m * cs.length:=by
 obtain⟨B,j,ts,os,ks,eb,hQ,hj,⟨P,hi⟩ | ⟨hj2,c,σ0,Rr,P,hi⟩⟩:=R
 . exact Nat.le_trans hi (Nat.mul_le_mul_left _ hj)
 . exact Nat.le_trans (by omega:i<=m * (j+1)) (Nat.mul_le_mul_left _ hj2)
theorem GZ.le (R:GZ Wn FS B0 L bS b cs Q HS m σb i w):i<=m * cs.length:=by
 obtain⟨σ,-,R⟩:=R
 exact R.le
theorem AB.on {σ:Nat} (R:AB Wn FS B0 L bS b cs Q HS m i σ w):Only FS Wn w:=by
 obtain⟨B,j,ts,os,ks,eb,hQ,hj,⟨P,hi⟩ | ⟨hj2,c,σ0,Rr,P,hi⟩⟩:=R
 . exact P.on
 . obtain⟨T,p,lo,h1,h2,h3⟩:=P.wr
   exact h2.1
theorem GZ.on (R:GZ Wn FS B0 L bS b cs Q HS m σb i w):Only FS Wn w:=by
 obtain⟨σ,-,R⟩:=R
 exact R.on
def qL (Wn:World) (FS:Nat->Prop) (B0:Nat) (L:Loc) (bS b:Nat) (cs:List Wc) (Q:Nat->List Td->Os->List Int->Prop) (w:World):Prop :=
 ∃ B ts os ks σ,SV.b B=b/\Q cs.length ts os ks/\AO Wn FS B0 L bS cs B cs.length ts os ks (cs.length+1) w σ
theorem AB.step {σ:Nat} (R:AB Wn FS B0 L bS b cs Q HS m i σ w) (ok:BJ Wn FS B0 L bS b cs Q HS m mv) (hσ:σ<1000000) :
 (qL Wn FS B0 L bS b cs Q w/\∀ w1,Below w.heap.size w w1->Calls Tryz.prog 12 #[.pointer (some ⟨b,0,none⟩)] w1 fun e w'=>e=.returned (.bool true)/\Below w1.heap.size w1 w') \/
 ((∀ w1,Below w.heap.size w w1->Calls Tryz.prog 12 #[.pointer (some ⟨b,0,none⟩)] w1 fun e w'=>e=.returned (.bool false)/\Below w1.heap.size w1 w') /\
  ∀ w1,Below w.heap.size w w1->Calls Tryz.prog 13 #[.pointer (some ⟨b,0,none⟩),QZ L,mv] w1 fun e w'=>e=.returned (.bool true)/\∃ σ',σ'<=σ+1/\AB Wn FS B0 L bS b cs Q HS m (i+1) σ' w'):=by
 obtain⟨B,j,ts,os,ks,rfl,hQ,hj,⟨P,hi⟩ | ⟨hj2,c,σ0,Rr,P,hi⟩⟩:=R
 . obtain⟨d,wr⟩:=P.wr
   by_cases hjn:j=cs.length
   . subst hjn
     left
     refine⟨⟨B,ts,os,ks,σ,rfl,hQ,P⟩,fun w1 g=>?_⟩
     refine(U5 (wr.grown g)).mono ?_
     rintro e w' ⟨rfl,g'⟩
     exact⟨by rw[decide_eq_true P.len],g'⟩
   . right
     have hjl:j<cs.length:=by omega
     obtain⟨c,hc⟩:∃ c,cs[j]?=some c:=⟨_,List.getElem?_eq_getElem hjl⟩
     obtain⟨hm1,hm2⟩:=ok.may c (List.mem_of_getElem? hc)
     refine⟨fun w1 g=>?_,fun w1 g=>?_⟩
     . refine(U5 (wr.grown g)).mono ?_
       rintro e w' ⟨rfl,g'⟩
       exact⟨by rw[decide_eq_false (by rw[P.len];exact hjn)],g'⟩
     . have P1:=P.grown g
       have nU:B.has B.Q.c:=Or.inr (Or.inr (Or.inl rfl))
       have hszW:=P1.on.size
       refine(P1.step hc (by have:=ok.hn;omega) (by omega) (by have:=ok.hn;omega) hm1 hm2 (ok.wd j ts os ks hQ P.len hjl) (fun w2 o2 _=>ok.hr B j ts os ks c w1 w2 rfl hQ P.len hc ⟨_,_,wr.grown g⟩ o2 (P1.on.grow o2 (fun x hx e=>by have e:x=B.Q.c:=e;rw[e] at hx ⊢;exact(P.bf _ nU).resolve_right (by omega))))).mono ?_
       rintro e w' ⟨rfl,hh⟩
       have hmj:=ok.hm j ts os ks hQ hjl
       refine⟨rfl,?_⟩
       rcases hh with⟨R',σ',hR,hs',P'⟩ | ⟨B',E,H,V,St,os',ks',σ',hs',eb,hR,P'⟩
       . exact⟨σ',hs',B,j,ts,os,ks,rfl,hQ,hj,Or.inr ⟨hjl,c,_,R',P',by rw[Nat.mul_succ];omega⟩⟩
       . exact⟨σ',hs',B',j+1,_,os',ks',eb,ok.hq j ts os ks c E H V St _ σ' os' ks' hQ P.len hc hR,hjl,Or.inl ⟨P',by rw[Nat.mul_succ];omega⟩⟩
 . right
   obtain⟨T,p,lo,wr,U,hlo⟩:=P.wr
   refine⟨fun w1 g=>?_,fun w1 g=>?_⟩
   . refine(U5 (wr.grown g)).mono ?_
     rintro e w' ⟨rfl,g'⟩
     exact⟨by rw[decide_eq_false (by rw[P.len];omega)],g'⟩
   . refine((P.grown g).step (by have:=ok.hn;omega) (by omega) (by have:=ok.hn;omega) mv).mono ?_
     rintro e w' ⟨rfl,hh⟩
     refine⟨rfl,?_⟩
     rcases hh with⟨R',σ',hR,hs',P'⟩ | ⟨B',E,H,V,St,os',ks',σ',hs',eb,hR,P'⟩
     . exact⟨σ',hs',B,j,ts,os,ks,rfl,hQ,hj,Or.inr ⟨hj2,c,_,R',P',by omega⟩⟩
     . have hi2:i+1<=m * (j+1):=by omega
       exact⟨σ',hs',B',j+1,_,os',ks',eb,ok.hq j ts os ks c E H V St _ σ' os' ks' hQ P.len P.at_ hR,hj2,Or.inl ⟨P',hi2⟩⟩
theorem GZ.step (R:GZ Wn FS B0 L bS b cs Q HS m σb i w) (ok:BJ Wn FS B0 L bS b cs Q HS m mv) (hσ:σb+i<1000000) :
 (qL Wn FS B0 L bS b cs Q w/\∀ w1,Below w.heap.size w w1->Calls Tryz.prog 12 #[.pointer (some ⟨b,0,none⟩)] w1 fun e w'=>e=.returned (.bool true)/\Below w1.heap.size w1 w') \/
 ((∀ w1,Below w.heap.size w w1->Calls Tryz.prog 12 #[.pointer (some ⟨b,0,none⟩)] w1 fun e w'=>e=.returned (.bool false)/\Below w1.heap.size w1 w') /\
  ∀ w1,Below w.heap.size w w1->Calls Tryz.prog 13 #[.pointer (some ⟨b,0,none⟩),QZ L,mv] w1 fun e w'=>e=.returned (.bool true)/\GZ Wn FS B0 L bS b cs Q HS m σb (i+1) w'):=by
 obtain⟨σ,hs,R⟩:=R
 refine(R.step ok (by omega)).imp id fun h=>⟨h.1,fun w1 g=>(h.2 w1 g).mono ?_⟩
 rintro e w' ⟨rfl,σ',hs',R'⟩
 exact⟨rfl,σ',by omega,R'⟩
end
end
section
set_option maxRecDepth 20000
theorem Kr (r:Value) (a b c:Int) (hr:r=.agg #[.int .i64 a,.int .i64 b,.int .u64 c]) (w:World):Calls Tryz.prog 14 #[r] w fun e w'=>e=.returned (.int .u64 0)/\Below w.heap.size w w':=by
 subst hr
 go_enter Tryz.func14,Tryz.ntmps14
 go_wp2
 go_ret
 exact⟨rfl,ZZ _ _⟩
theorem Rz.Ey {w:World} {T:TypeId} {z b:Nat} {c:Array Value} (k:w.heap[b]?=some (.cells c T (0,0))) (l:List (List Value)) (hc:c=l.flatten.toArray) (hl:∀ e∈l,e.length=z):Rz w T z b l.length l :=
 ⟨⟨c,k,by rw[hc];simp only[List.size_toArray];rw[WZ hl];exact Nat.le_refl _,fun i x h=>by rw[hc];simpa using h⟩,Nat.le_refl _,hl⟩
theorem GZ.start {w0 Wn:World} {L:Loc} {B:SV} {bS Bs σ:Nat} {cs:List Wc} {d:Td} {Q:Nat->List Td->Os->List Int->Prop} {HS:Nat->List Td->Int} {m σb:Nat} (A:Ar L w0 σ 1 [] []) (S:Sh w0 L Bs bS 3) (wr:XP Wn w0.heap.size B 0 (some ⟨bS,0,none⟩) cs (Eu cs.length) .nilIface d []) (g:Below w0.heap.size w0 Wn) (hQ:Q 0 [] [] []) (hσ:σ<=σb) :
 GZ Wn (fun x=>L.has x\/B.has x) w0.heap.size L bS B.b cs Q HS m σb 0 Wn:=by
 refine⟨σ,by omega,B,0,[],[],[],rfl,hQ,Nat.zero_le _,Or.inl ⟨⟨Only.refl _ _,⟨d,wr⟩,rfl,A.grown g,fun x hx=>Nat.lt_of_lt_of_le (A.lt x hx) g.size,S.low.only (S:=fun _=>False) (Only.Z5 g) (fun _ h=>h.elim),⟨fun x hx=>⟨Or.inl hx,A.lt x hx⟩,fun x hx=>hx.imp id (wr.ge x),g.size⟩,fun x hx=>Or.inl (Or.inr hx)⟩,Nat.zero_le _⟩⟩
def yE:List Wc:=[⟨1,2,0,0,0,0,0,0,0⟩,⟨7,0,0,0,0,0,0,0,7⟩]
def tq:Nat->List Td->Os->List Int->Prop
 | 0,ts,os,ks=>ts=[]/\os=[]/\ks=[]
 | 1,ts,os,ks=>∃ t0:Td,ts=[t0]/\t0.E=0/\os.length<=1/\ks=[]
 | 2,ts,_,_=>∃ t0 t1:Td,ts=[t0,t1]/\t0.E=0/\t1.V=1
 | _+3,_,_,_=>False
theorem wC (Wn:World) (FS:Nat->Prop) (B0:Nat) (L:Loc) (bS b:Nat):BJ Wn FS B0 L bS b yE tq (fun _ _=>0) 93 (.func (.func 14) #[] #[]):=by
 refine⟨by decide,fun j ts os ks c E H V St σ0 σ' os' ks' hQ hl hc hR=>?_,fun j ts os ks hQ hj=>?_,fun c hc=>?_,fun j ts os ks _ _ _=>⟨by decide,by decide⟩,fun B j ts os ks c w w1 _ _ _ hc _ _ _=>?_⟩
 . match j,hQ with
   | 0,⟨h1,h2,h3⟩ =>
    subst h1 h2 h3
    cases hc
    obtain⟨est,hH,vk,hroom⟩:=hR
    have hE:E=0:=hroom (Or.inl ⟨rfl,by decide⟩) (by decide) (by decide)
    have hlen:=(Et est).1
    refine⟨_,rfl,hE,hlen,?_⟩
    unfold X3 at est
    rw[if_pos rfl,if_neg (by decide),if_neg (fun h=>h hE)] at est
    simp only[Prod.mk.injEq] at est
    exact est.1.2.symm
   | 1,⟨t0,h1,h2,h3,h4⟩ =>
    subst h1 h4
    cases hc
    obtain⟨est,hH,vk,hroom⟩:=hR
    have hE:E=0:=hroom (Or.inr (by decide)) (by decide) (by simp;omega)
    refine⟨t0,_,rfl,h2,?_⟩
    unfold X3 at est
    rw[if_neg (by decide),if_neg (by decide),if_neg (by decide),if_neg (by decide),if_pos rfl,if_neg (fun h=>h hE)] at est
    simp only[Prod.mk.injEq] at est
    exact(of_decide_eq_true est.2).trans (by simp)
   | 2,_=>cases hc
   | _+3,h=>exact h.elim
 . match j,hQ with
   | 0,⟨_,_,h3⟩=>subst h3;decide
   | 1,⟨_,_,_,_,h4⟩=>subst h4;decide
   | n+2,_=>exact absurd hj (by show ¬ n+2<2;omega)
 . simp only[yE,List.mem_cons,List.not_mem_nil,or_false] at hc
   rcases hc with rfl | rfl
   . exact⟨by decide,by decide,by decide⟩
   . exact⟨by decide,by decide,by decide⟩
 . have hrt:¬ c.rt<0:=by
    have:=List.mem_of_getElem? hc
    simp only[yE,List.mem_cons,List.not_mem_nil,or_false] at this
    rcases this with rfl | rfl <;> decide
   exact QL c hrt 0 w1 (fun w2 _=>Kr _ _ _ _ rfl w2)
set_option maxRecDepth 20000 in
set_option maxHeartbeats 4000000 in
theorem Nl (w:World):Calls Tryz.prog 10 #[] w fun e w'=>e=.returned (.bool true)/\Below w.heap.size w w':=by
 have hbg:=Qh w
 have wG:∀ (w1:World) (Lp:Nat),((w1.alloc (.cells #[.int .i64 1,.int .i64 30,.int .i64 16,.int .i64 40,.int .i64 100,.int .i64 600,.int .i64 3,.pointer (some ⟨Lp,0,none⟩),.int .i64 0] 27)).alloc (.cells #[.int .i64 1,.int .i64 2,.int .i64 0,.int .i64 0,.int .u64 0,.int .i64 0,.int .i64 0,.int .i64 0,.int .i64 0,.int .i64 7,.int .i64 0,.int .i64 0,.int .i64 0,.int .u64 0,.int .i64 0,.int .i64 0,.int .i64 0,.int .i64 7] 45)).heap[w1.heap.size+1]?=some (.cells #[.int .i64 1,.int .i64 2,.int .i64 0,.int .i64 0,.int .u64 0,.int .i64 0,.int .i64 0,.int .i64 0,.int .i64 0,.int .i64 7,.int .i64 0,.int .i64 0,.int .i64 0,.int .u64 0,.int .i64 0,.int .i64 0,.int .i64 0,.int .i64 7] 45):=fun w1 Lp=>by
  have:=Go.Deep.blk_alloc_new (w1.alloc (.cells #[.int .i64 1,.int .i64 30,.int .i64 16,.int .i64 40,.int .i64 100,.int .i64 600,.int .i64 3,.pointer (some ⟨Lp,0,none⟩),.int .i64 0] 27)) (.cells #[.int .i64 1,.int .i64 2,.int .i64 0,.int .i64 0,.int .u64 0,.int .i64 0,.int .i64 0,.int .i64 0,.int .i64 0,.int .i64 7,.int .i64 0,.int .i64 0,.int .i64 0,.int .u64 0,.int .i64 0,.int .i64 0,.int .i64 0,.int .i64 7] 45)
  rw[Go.Deep.nblk_alloc] at this
  exact this
 go_enter Tryz.func10,Tryz.ntmps10
 go_wp2_with (first
  | (go_at_call 7;refine hbg.mono ?_;rintro e w1 ⟨L,bS,rfl,⟨Bs,σ,A,S,hσ,hL⟩,g1⟩)
  | (go_at_call 8;refine(Qg (cs:=yE) (n:=3) 0 (by decide) (Or.inr ⟨_,2,rfl,Rz.Ey (wG w1 L.p) (yE.map Wc.l) rfl (by decide)⟩) (by decide) (Or.inr ⟨bS,rfl,S.sh.grown (grow (ZZ w1 _) (ZZ _ _))⟩) (by decide)).mono ?_;rintro e w2 ⟨B,rfl,wr2,g2⟩))
 have Ew:=grow (ZZ w1 (.cells #[.int .i64 1,.int .i64 30,.int .i64 16,.int .i64 40,.int .i64 100,.int .i64 600,.int .i64 3,.pointer (some ⟨L.p,0,none⟩),.int .i64 0] 27)) (ZZ (w1.alloc (.cells #[.int .i64 1,.int .i64 30,.int .i64 16,.int .i64 40,.int .i64 100,.int .i64 600,.int .i64 3,.pointer (some ⟨L.p,0,none⟩),.int .i64 0] 27)) (.cells #[.int .i64 1,.int .i64 2,.int .i64 0,.int .i64 0,.int .u64 0,.int .i64 0,.int .i64 0,.int .i64 0,.int .i64 0,.int .i64 7,.int .i64 0,.int .i64 0,.int .i64 0,.int .u64 0,.int .i64 0,.int .i64 0,.int .i64 0,.int .i64 7] 45))
 have A2:=A.grown Ew
 have S2:=S.grown Ew
 have R2:=GZ.start (Q:=tq) (HS:=fun _ _=>0) (m:=93) (σb:=2000) A2 S2 wr2 g2 ⟨rfl,rfl,rfl⟩ hσ
 have v2:=((ZP.new (w:=w1) (P:=L.p) (c0:=1) (c1:=30) (c2:=16) (c3:=40) (c4:=100) (c5:=600) (c6:=3) (who:=0) (T:=27)).grown (ZZ (w1.alloc (.cells #[.int .i64 1,.int .i64 30,.int .i64 16,.int .i64 40,.int .i64 100,.int .i64 600,.int .i64 3,.pointer (some ⟨L.p,0,none⟩),.int .i64 0] 27)) (.cells #[.int .i64 1,.int .i64 2,.int .i64 0,.int .i64 0,.int .u64 0,.int .i64 0,.int .i64 0,.int .i64 0,.int .i64 0,.int .i64 7,.int .i64 0,.int .i64 0,.int .i64 0,.int .u64 0,.int .i64 0,.int .i64 0,.int .i64 0,.int .i64 7] 45))).grown g2
 have nE:¬ (L.has w1.heap.size\/B.has w1.heap.size):=fun hh=>by
  rcases hh with hh | hh
  . have:=A.lt _ hh;omega
  . have:=wr2.ge _ hh;rw[Go.Deep.nblk_alloc,Go.Deep.nblk_alloc] at this;omega
 have ok:=fun FS B0=>wC w2 FS B0 L bS B.b
 have GW:Below w.heap.size w w2:=grow g1 (grow Ew g2)
 have tu:∀ x,L.has x\/B.has x->w.heap.size<=x:=fun x hx=>by
  rcases hx with hx | hx
  . exact hL x hx
  . have:=wr2.ge _ hx;have:=(grow g1 Ew).size;omega
 clear hbg wG A S hσ hL g1 A2 S2 wr2 g2 Ew
 generalize ((w1.alloc (.cells #[.int .i64 1,.int .i64 30,.int .i64 16,.int .i64 40,.int .i64 100,.int .i64 600,.int .i64 3,.pointer (some ⟨L.p,0,none⟩),.int .i64 0] 27)).alloc (.cells #[.int .i64 1,.int .i64 2,.int .i64 0,.int .i64 0,.int .u64 0,.int .i64 0,.int .i64 0,.int .i64 0,.int .i64 0,.int .i64 7,.int .i64 0,.int .i64 0,.int .i64 0,.int .u64 0,.int .i64 0,.int .i64 0,.int .i64 0,.int .i64 7] 45)).heap.size=B0 at *
 go_loopw [6] (fun iv wr=>∃ i:Nat,iv=.int .i64 i/\GZ w2 (fun x=>L.has x\/B.has x) B0 L bS B.b yE tq (fun _ _=>0) 93 2000 i wr) (fun iv _=>600 - (intOf iv).toNat)
 case atStart=>exact⟨0,rfl,R2⟩
 case round =>
  clear R2
  obtain⟨i,rfl,R⟩:=hrel
  have hi:i<=186:=R.le
  have hi5:(i:Int)<500:=by omega
  have on:=R.on
  have vr:=v2.only on nE
  rcases R.step (ok _ _) (by omega) with⟨hE,he⟩ | ⟨he,hst⟩
  . have he:=he _ (Below.refl _ _)
    have GR:Below w.heap.size w wr:=GW.trans (on.below GW.size (fun k hk hs=>by have:=tu k hs;omega))
    obtain⟨B5,ts,os,ks,σ5,eb,⟨t0,t1,rfl,hE0,hV1⟩,P⟩:=hE
    obtain⟨d5,AU⟩:=P.wr
    have htold:=fun w3 (g3:Below wr.heap.size wr w3)=>Qe (AU.grown g3)
    have Nk:=fun w3 (g3:Below wr.heap.size wr w3)=>Qd (AU.grown g3) 0
    have hidle:=fun w3 (g3:Below wr.heap.size wr w3)=>Nj (AU.grown g3)
    simp only[eb] at htold Nk hidle
    clear P AU on R v2 vr GW ok
    go_wp2_with (first
     | (go_at_call 12;refine he.mono ?_;rintro e w3 ⟨rfl,g3⟩)
     | (go_at_call 17;refine(htold _ g3).mono ?_;rintro e w5 ⟨v5,rfl,s5,g5,f5⟩))
    have yF:=grow g3 g5
    rcases s5 with⟨_,h5⟩ | ⟨gb,gc,e5,r5⟩
    . cases h5
    have e5:v5=.slice (some ⟨gb,0,none⟩) 2 gc:=e5
    subst e5
    have c12:w5.cell? ⟨gb,12,none⟩=some (.int .i64 0):=(r5.cell0 (i:=12) rfl).trans (by rw[hE0])
    have c13:w5.cell? ⟨gb,13,none⟩=some (.int .u64 t0.H):=r5.cell0 (i:=13) rfl
    have c32:w5.cell? ⟨gb,32,none⟩=some (.int .i64 1):=(r5.cell0 (i:=32) rfl).trans (by rw[hV1])
    clear r5 f5 htold
    refine ZK Grown 33 [.val (.slice (some ⟨gb,0,none⟩) 2 gc),.val (.int .i64 2),.val (.bool true),.val (.bool true),.val (.slice (some ⟨gb,0,none⟩) 2 gc),.val (.pointer (some ⟨gb,0,none⟩)),.val (.pointer (some ⟨gb,12,none⟩)),.val (.pointer (some ⟨gb,12,none⟩)),.val (.int .i64 0),.val (.bool true),.val (.bool true),.val (.bool true),.val (.pointer (some ⟨B.b,0,none⟩)),.val (.int .u64 t0.H),.val (.slice (some ⟨gb,0,none⟩) 2 gc),.val (.pointer (some ⟨gb,0,none⟩)),.val (.pointer (some ⟨gb,12,none⟩)),.val (.pointer (some ⟨gb,13,none⟩)),.val (.int .u64 t0.H),.val (.bool true),.val (.bool true),.val (.bool true),.val (.slice (some ⟨gb,0,none⟩) 2 gc),.val (.pointer (some ⟨gb,18,none⟩)),.val (.pointer (some ⟨gb,30,none⟩)),.val (.pointer (some ⟨gb,32,none⟩)),.val (.int .i64 1),.val (.bool true),.val (.bool true),.val (.bool true),.val (.pointer (some ⟨B.b,0,none⟩)),.val (.bool true),.val (.bool true)] (by kernel_rfl) Grown.refl Grown.trans (by decide) (by kernel_rfl) (by kernel_rfl) (by kernel_rfl) (by kernel_rfl) (by kernel_rfl) (by kernel_rfl) ?_
    simp only[List.take_succ_cons,List.take_zero,ZH,Act.put,List.setIfInBounds_toArray,List.set_cons_zero,List.set_cons_succ]
    refine⟨?_,⟨?_,⟨?_,⟨?_,⟨?_,⟨?_,⟨?_,⟨?_,⟨?_,⟨?_,⟨?_,⟨?_,⟨?_,⟨?_,⟨?_,⟨?_,⟨?_,⟨?_,⟨?_,⟨?_,⟨?_,⟨?_,⟨?_,⟨?_,⟨?_,⟨?_,⟨?_,⟨?_,⟨?_,⟨?_,⟨?_,⟨?_,⟨?_,?_⟩⟩⟩⟩⟩⟩⟩⟩⟩⟩⟩⟩⟩⟩⟩⟩⟩⟩⟩⟩⟩⟩⟩⟩⟩⟩⟩⟩⟩⟩⟩⟩⟩
    . intro w' hg HF
      apply ol
      clear HF
      go_simp
      exact gl
    . intro w' hg HF
      apply ol
      clear HF
      go_simp
      exact gl
    . intro w' hg HF
      apply ol
      clear HF
      go_simp
      exact gl
    . intro w' hg HF
      apply ol
      clear HF
      go_simp
      exact gl
    . intro w' hg HF
      apply ol
      clear HF
      go_simp
      exact gl
    . intro w' hg HF
      apply ol
      clear HF
      go_simp
      exact gl
    . intro w' hg HF
      apply ol
      clear HF
      go_simp
      exact gl
    . intro w' hg HF
      apply ol
      clear HF
      go_simp
      exact gl
    . intro w' hg HF
      apply ol
      have k:=keep' (w:=w5.drew) hg c12
      clear HF
      go_simp
      exact gl
    . intro w' hg HF
      apply ol
      clear HF
      go_simp
      exact gl
    . intro w' hg HF
      apply ol
      clear HF
      go_simp
      exact gl
    . intro w' hg HF
      apply ol
      clear HF
      go_simp
      exact gl
    . intro w' hg HF
      apply ol
      clear HF
      go_simp
      exact gl
    . intro w' hg HF
      apply ol
      have hmd:=Nk _ (grow yF (grow ((Below.refl _ _).drew) hg))
      clear HF
      go_simp
      refine hmd.mono ?_
      rintro e w'' ⟨rfl,rfl⟩
      exact⟨_,rfl,Grown.refl _,rfl⟩
    . intro w' hg HF
      apply ol
      clear HF
      go_simp
      exact gl
    . intro w' hg HF
      apply ol
      clear HF
      go_simp
      exact gl
    . intro w' hg HF
      apply ol
      clear HF
      go_simp
      exact gl
    . intro w' hg HF
      apply ol
      clear HF
      go_simp
      exact gl
    . intro w' hg HF
      apply ol
      have k:=keep' (w:=w5.drew) hg c13
      clear HF
      go_simp
      exact gl
    . intro w' hg HF
      apply ol
      clear HF
      go_simp
      exact gl
    . intro w' hg HF
      apply ol
      clear HF
      go_simp
      exact gl
    . intro w' hg HF
      apply ol
      clear HF
      go_simp
      exact gl
    . intro w' hg HF
      apply ol
      clear HF
      go_simp
      exact gl
    . intro w' hg HF
      apply ol
      clear HF
      go_simp
      exact gl
    . intro w' hg HF
      apply ol
      clear HF
      go_simp
      exact gl
    . intro w' hg HF
      apply ol
      clear HF
      go_simp
      exact gl
    . intro w' hg HF
      apply ol
      have k:=keep' (w:=w5.drew) hg c32
      clear HF
      go_simp
      exact gl
    . intro w' hg HF
      apply ol
      clear HF
      go_simp
      exact gl
    . intro w' hg HF
      apply ol
      clear HF
      go_simp
      exact gl
    . intro w' hg HF
      apply ol
      clear HF
      go_simp
      exact gl
    . intro w' hg HF
      apply ol
      clear HF
      go_simp
      exact gl
    . intro w' hg HF
      apply ol
      have hid:=hidle _ (grow yF (grow ((Below.refl _ _).drew) hg))
      clear HF
      go_simp
      refine hid.mono ?_
      rintro e w'' ⟨rfl,rfl⟩
      exact⟨_,rfl,Grown.refl _,rfl⟩
    . intro w' hg HF
      apply ol
      clear HF
      go_simp
      exact gl
    intro w6 hg _
    go_wp2
    go_ret
    exact⟨rfl,grow GR (grow yF (grow ((Below.refl _ _).drew) hg))⟩
  . have he:=he _ (Below.refl _ _)
    have HI:Hid (i<=186):=hi
    clear hi R on
    go_wp2_with (first
     | (go_at_call 12;refine he.mono ?_;rintro e w3 ⟨rfl,g3⟩;have v3:=vr.grown g3;obtain⟨y0,y1,y2,y3,y4,y5,y6,y7,y8⟩:=id v3)
     | (go_at_call 13;refine(hst _ g3).mono ?_;rintro e w4 ⟨rfl,R4⟩))
    go_roundw
    case rel=>exact⟨i+1,by go_num,R4⟩
    case measure=>have:=HI.out;simp[intOf];omega
end
section
def Ea (K a:Int):List Wc:=[⟨6,0,0,0,0,0,0,0,1⟩,⟨K,0,0,a,0,0,0,0,0⟩,⟨1,2,0,0,0,0,0,0,0⟩]
def vw:Nat->List Td->Os->List Int->Prop
 | 0,ts,os,ks=>ts=[]/\os=[]/\ks=[]
 | 1,ts,os,ks=>∃ t0:Td,ts=[t0]/\t0.H=0/\os=[]/\ks=[]
 | 2,ts,os,ks=>∃ t0 t1:Td,ts=[t0,t1]/\t0.H=0/\t1.H=0/\t1.hd=0/\t1.E=3/\os=[]/\ks=[]
 | 3,ts,_,_=>∃ t0 t1 t2:Td,ts=[t0,t1,t2]/\t0.H=0/\t1.H=0/\t1.hd=0/\t1.E=3/\t2.E=0/\0<t2.H
 | _+4,_,_,_=>False
def yG (a:Int):Nat->List Td->Int
 | 0,_=>0
 | 1,ts=>madeOf ts a
 | _,ts=>madeOf ts 0
theorem En {t:Td} (h:t.H=0) (i:Int):madeOf [t] i=0:=by
 unfold madeOf
 split
 . rfl
 . cases i.toNat with
   | zero=>exact h
   | succ n=>rfl
theorem Em {t u:Td} (h:t.H=0) (h':u.H=0) (i:Int):madeOf [t,u] i=0:=by
 unfold madeOf
 split
 . rfl
 . match i.toNat with
   | 0=>exact h
   | 1=>exact h'
   | n+2=>rfl
theorem Ku {t u v:Td} (h:t.H=0) (h':u.H=0) (hv:0<v.H) (i:Int):(madeOf [t,u,v] i == v.H)=decide (i=2):=by
 unfold madeOf
 by_cases h2:i=2
 . subst h2
   rw[if_neg (by decide)]
   show (v.H == v.H)=_
   simp
 . rw[decide_eq_false h2]
   split
   . simp;omega
   . obtain⟨n,hn⟩:∃ n:Nat,i=n:=⟨i.toNat,by omega⟩
     subst hn
     rw[Int.toNat_natCast]
     match n,h2 with
     | 0,_=>show (t.H == v.H)=false;simp;omega
     | 1,_=>show (u.H == v.H)=false;simp;omega
     | 2,h2=>exact absurd rfl h2
     | n+3,_=>show ((0:Int) == v.H)=false;simp;omega
theorem AL {a:Int} {j:Nat} {ts:List Td} {os:Os} {ks:List Int} (h:vw j ts os ks) (hj:j<3):yG a j ts=0:=by
 match j,h with
 | 0,_=>rfl
 | 1,⟨t0,e,h0,_⟩=>subst e;exact En h0 a
 | 2,⟨t0,t1,e,h0,h1,_⟩=>subst e;exact Em h0 h1 0
 | n+3,_=>omega
theorem GU {w:World} {p b:Nat} {H:Int} (c:Wc) (hp:w.cell? ⟨p,0,none⟩=some (.pointer (some ⟨b,0,none⟩))) (hm:∀ w1,Below w.heap.size w w1->Calls Tryz.prog 18 #[.pointer (some ⟨b,0,none⟩),.int .i64 c.ra] w1 fun e w'=>e=.returned (.int .u64 H)/\w'=w1) :
 Calls Tryz.prog 19 #[c.rf,.pointer (some ⟨p,0,none⟩)] w fun e w'=>e=.returned (.int .u64 H)/\Below w.heap.size w w':=by
 have x0:=At.new w 43 [.int .i64 c.rt,.int .i64 c.ra,.int .u64 c.rr]
 have t0:=x0.at0 0 rfl
 have t1:=x0.at0 1 rfl
 have t2:=x0.at0 2 rfl
 have g0:=ZZ w (.cells #[.int .i64 c.rt,.int .i64 c.ra,.int .u64 c.rr] 43)
 have hp:=keep' g0 hp
 have hm:=hm _ g0
 go_enter Tryz.func19,Tryz.ntmps19
 go_wp2_with (go_at_call 18;refine hm.mono ?_;rintro e w1 ⟨rfl,rfl⟩)
 go_ret
 exact⟨rfl,g0⟩
theorem wE (K a:Int) (hK:2<=K/\K<=5) (Wn:World) (FS:Nat->Prop) (B0:Nat) (L:Loc) (bS b p:Nat) (hp:Wn.cell? ⟨p,0,none⟩=some (.pointer (some ⟨b,0,none⟩))) (hF:¬ FS p):BJ Wn FS B0 L bS b (Ea K a) vw (yG a) 93 (.func (.func 19) #[] #[.pointer (some ⟨p,0,none⟩)]):=by
 have hrt:∀ c∈Ea K a,c.rt=0:=fun c hc=>by
  simp only[Ea,List.mem_cons,List.not_mem_nil,or_false] at hc
  rcases hc with rfl | rfl | rfl <;> rfl
 refine⟨(by show 3<=40;decide),fun j ts os ks c E H V St σ0 σ' os' ks' hQ hl hc hR=>?_,fun j ts os ks hQ hj=>?_,fun c hc=>?_,fun j ts os ks hQ _ hj=>?_,fun B j ts os ks c w w1 eb hQ _ hc hw o on=>?_⟩
 . have hj:j<3:=(List.getElem?_eq_some_iff.1 hc).1
   have hh:=AL (a:=a) hQ hj
   obtain⟨est,hH,vk,hroom⟩:=hR
   rw[hh] at est
   match j,hQ with
   | 0,⟨h1,h2,h3⟩ =>
    subst h1 h2 h3
    cases hc
    refine⟨_,rfl,hH (by decide),?_⟩
    unfold X3 at est
    rw[if_neg (by decide),if_neg (by decide),if_neg (by decide),if_pos rfl] at est
    simp only[Prod.mk.injEq] at est
    exact⟨est.1.1.symm,est.1.2.symm⟩
   | 1,⟨t0,h1,h2,h3,h4⟩ =>
    subst h1 h3 h4
    cases hc
    have hK1:K≠1:=by omega
    have est:X3 K 0 0 0 0 0 0 E H V [] []=((os',ks'),true):=est
    have key:os'=[]/\ks'=[]/\E=3:=by
     unfold X3 at est
     rw[if_neg hK1] at est
     by_cases h2':K=2
     . rw[if_pos h2'] at est
       simp only[Yp,Prod.mk.injEq] at est
       exact⟨est.1.1.symm,est.1.2.symm,of_decide_eq_true est.2⟩
     . rw[if_neg h2',if_pos (by omega)] at est
       simp only[Yp,Prod.mk.injEq] at est
       exact⟨est.1.1.symm,est.1.2.symm,of_decide_eq_true est.2⟩
    exact⟨t0,_,rfl,h2,hH hK1,hh,key.2.2,key.1,key.2.1⟩
   | 2,⟨t0,t1,h1,h2,h3,h4,h5,h6,h7⟩ =>
    subst h1 h6 h7
    cases hc
    have hE:E=0:=hroom (Or.inl ⟨rfl,by decide⟩) (by decide) (by decide)
    refine⟨t0,t1,_,rfl,h2,h3,h4,h5,hE,?_⟩
    unfold X3 at est
    rw[if_pos rfl,if_neg (by decide),if_neg (fun h=>h hE)] at est
    simp only[Prod.mk.injEq,Bool.and_eq_true] at est
    exact of_decide_eq_true est.2.2
   | n+3,_=>omega
 . have hj:j<3:=hj
   match j,hQ with
   | 0,⟨_,_,h3⟩=>subst h3;decide
   | 1,⟨_,_,_,_,h4⟩=>subst h4;decide
   | 2,⟨_,_,_,_,_,_,_,_,h4⟩=>subst h4;decide
   | n+3,_=>omega
 . simp only[Ea,List.mem_cons,List.not_mem_nil,or_false] at hc
   rcases hc with rfl | rfl | rfl
   . exact⟨by decide,by decide,by decide⟩
   . refine⟨?_,(by show (-9223372036854775808:Int)<=0;decide),(by show (0:Int)<=9223372036854775807;decide)⟩
     have:Wc.asks ⟨K,0,0,a,0,0,0,0,0⟩=false:=by unfold Wc.asks;rw[decide_eq_false (by show ¬ 6<=K;omega)];rfl
     unfold Wc.may
     rw[this]
     exact WW (by show 1<=K;omega) hK.2 (by show (0:Int)<=0;decide) (by show (0:Int)<=1099511627775;decide) (by show (0:Int)<=0;decide) (by show (0:Int)<=1099511627775;decide)
   . exact⟨by decide,by decide,by decide⟩
 . rw[AL hQ hj];exact⟨by decide,by decide⟩
 . have hj:j<3:=(List.getElem?_eq_some_iff.1 hc).1
   have nX:=hrt c (List.mem_of_getElem? hc)
   obtain⟨qs,d,wr⟩:=hw
   have hp1:w1.cell? ⟨p,0,none⟩=some (.pointer (some ⟨b,0,none⟩)):=(on.cell (p:=⟨p,0,none⟩) (World.block_lt_of_cell? _ _ hp) hF).trans hp
   have hra:madeOf ts c.ra=yG a j ts:=by
    match j,hQ with
    | 0,⟨h1,_,_⟩=>subst h1;show madeOf [] _=0;unfold madeOf;split <;> simp
    | 1,_=>cases hc;rfl
    | 2,_=>cases hc;rfl
    | n+3,_=>omega
   refine OX c (by omega) p (yG a j ts) w1 (fun w2 g2=>GU c (keep' g2 hp1) (fun w3 g3=>?_))
   have h:=GX wr (o.trans (Only.Z5 (grow g2 g3))) c.ra
   rw[hra,eb] at h
   exact h
theorem wH (z:Int):∃ M:Int,(z.tmod 4+4).tmod 4=M/\0<=M/\M<=3/\-4<z.tmod 4/\z.tmod 4<4:=by
 have h1:-(4:Int)<z.tmod 4:=Int.lt_tmod_of_pos z (by omega)
 have h3:z.tmod 4<4:=Int.tmod_lt_of_pos z (by omega)
 have e:=Int.tmod_eq_emod_of_nonneg (a:=z.tmod 4+4) (b:=4) (by omega)
 exact⟨_,rfl,by omega,by omega,h1,h3⟩
end
section
set_option maxRecDepth 20000
set_option maxRecDepth 20000 in
set_option maxHeartbeats 8000000 in
theorem Tm (z a:Int) (w:World):Calls Tryz.prog 6 #[.int .i64 z,.int .i64 a] w fun e w'=>e=.returned (.bool true)/\Below w.heap.size w w':=by
 have hbg:=Qh w
 obtain⟨M,e4,m0,m3,b1,b2⟩:=wH z
 have hmf:∀ (fn:Fn) (first cap:Array Value) (w:World),(Instr.makeFunc fn first cap).run Tryz.prog w=.ok (.func fn first cap) w:=fun _ _ _ _=>rfl
 have wG:∀ (w1:World) (Lp:Nat),(((w1.alloc (.cells #[.int .i64 1,.int .i64 30,.int .i64 16,.int .i64 40,.int .i64 100,.int .i64 600,.int .i64 3,.pointer (some ⟨Lp,0,none⟩),.int .i64 0] 27)).alloc (.cells #[.int .i64 (2+M),.int .i64 0,.int .i64 0,.int .i64 a,.int .u64 0,.int .i64 0,.int .i64 0,.int .i64 0,.int .i64 0] 45)).alloc (.cells #[.int .i64 6,.int .i64 0,.int .i64 0,.int .i64 0,.int .u64 0,.int .i64 0,.int .i64 0,.int .i64 0,.int .i64 1,.int .i64 (2+M),.int .i64 0,.int .i64 0,.int .i64 a,.int .u64 0,.int .i64 0,.int .i64 0,.int .i64 0,.int .i64 0,.int .i64 1,.int .i64 2,.int .i64 0,.int .i64 0,.int .u64 0,.int .i64 0,.int .i64 0,.int .i64 0,.int .i64 0] 45)).heap[w1.heap.size+1+1]?=some (.cells #[.int .i64 6,.int .i64 0,.int .i64 0,.int .i64 0,.int .u64 0,.int .i64 0,.int .i64 0,.int .i64 0,.int .i64 1,.int .i64 (2+M),.int .i64 0,.int .i64 0,.int .i64 a,.int .u64 0,.int .i64 0,.int .i64 0,.int .i64 0,.int .i64 0,.int .i64 1,.int .i64 2,.int .i64 0,.int .i64 0,.int .u64 0,.int .i64 0,.int .i64 0,.int .i64 0,.int .i64 0] 45):=fun w1 Lp=>by
  have:=Go.Deep.blk_alloc_new ((w1.alloc (.cells #[.int .i64 1,.int .i64 30,.int .i64 16,.int .i64 40,.int .i64 100,.int .i64 600,.int .i64 3,.pointer (some ⟨Lp,0,none⟩),.int .i64 0] 27)).alloc (.cells #[.int .i64 (2+M),.int .i64 0,.int .i64 0,.int .i64 a,.int .u64 0,.int .i64 0,.int .i64 0,.int .i64 0,.int .i64 0] 45)) (.cells #[.int .i64 6,.int .i64 0,.int .i64 0,.int .i64 0,.int .u64 0,.int .i64 0,.int .i64 0,.int .i64 0,.int .i64 1,.int .i64 (2+M),.int .i64 0,.int .i64 0,.int .i64 a,.int .u64 0,.int .i64 0,.int .i64 0,.int .i64 0,.int .i64 0,.int .i64 1,.int .i64 2,.int .i64 0,.int .i64 0,.int .u64 0,.int .i64 0,.int .i64 0,.int .i64 0,.int .i64 0] 45)
  rw[Go.Deep.nblk_alloc,Go.Deep.nblk_alloc] at this
  exact this
 have hbad:(Ea (2+M) a).any (Wc.bad 3)=false:=by
  have h0:Wc.bad 3 ⟨6,0,0,0,0,0,0,0,1⟩=false:=by decide
  have h2:Wc.bad 3 ⟨1,2,0,0,0,0,0,0,0⟩=false:=by decide
  have h1:Wc.bad 3 ⟨2+M,0,0,a,0,0,0,0,0⟩=false:=by
   have ha:Wc.asks ⟨2+M,0,0,a,0,0,0,0,0⟩=false:=by unfold Wc.asks;rw[decide_eq_false (by show ¬ 6<=2+M;omega)];rfl
   have hm:Wc.may ⟨2+M,0,0,a,0,0,0,0,0⟩=true:=by
    unfold Wc.may
    rw[ha]
    exact WW (by show 1<=2+M;omega) (by show 2+M<=5;omega) (by show (0:Int)<=0;decide) (by show (0:Int)<=1099511627775;decide) (by show (0:Int)<=0;decide) (by show (0:Int)<=1099511627775;decide)
   unfold Wc.bad
   rw[hm,ha];rfl
  simp[Ea,h0,h1,h2]
 go_enter Tryz.func6,Tryz.ntmps6
 go_wp2_with (first
  | (go_at_call 7;refine hbg.mono ?_;rintro e w1 ⟨L,bS,rfl,⟨Bs,σ,A,S,hσ,hL⟩,g1⟩)
  | (go_at_call 8;refine(Qg (cs:=Ea (2+M) a) (n:=3) 0 (by decide) (Or.inr ⟨_,3,rfl,Rz.Ey (wG w1 L.p) ((Ea (2+M) a).map Wc.l) rfl (fun e he=>by simp only[Ea,List.map_cons,List.map_nil,List.mem_cons,List.not_mem_nil,or_false] at he;rcases he with rfl | rfl | rfl <;> rfl)⟩) (by show 3<=64;decide) (Or.inr ⟨bS,rfl,S.sh.grown (grow (ZZ w1 _) (grow (ZZ _ _) (ZZ _ _)))⟩) hbad).mono ?_;rintro e w2 ⟨B,rfl,wr2,g2⟩)
  | (go_at_call 10;refine(Nl _).mono ?_;rintro e w4 ⟨rfl,g4⟩))
 have Ew:=grow (ZZ w1 (.cells #[.int .i64 1,.int .i64 30,.int .i64 16,.int .i64 40,.int .i64 100,.int .i64 600,.int .i64 3,.pointer (some ⟨L.p,0,none⟩),.int .i64 0] 27)) (grow (ZZ (w1.alloc (.cells #[.int .i64 1,.int .i64 30,.int .i64 16,.int .i64 40,.int .i64 100,.int .i64 600,.int .i64 3,.pointer (some ⟨L.p,0,none⟩),.int .i64 0] 27)) (.cells #[.int .i64 (2+M),.int .i64 0,.int .i64 0,.int .i64 a,.int .u64 0,.int .i64 0,.int .i64 0,.int .i64 0,.int .i64 0] 45)) (ZZ ((w1.alloc (.cells #[.int .i64 1,.int .i64 30,.int .i64 16,.int .i64 40,.int .i64 100,.int .i64 600,.int .i64 3,.pointer (some ⟨L.p,0,none⟩),.int .i64 0] 27)).alloc (.cells #[.int .i64 (2+M),.int .i64 0,.int .i64 0,.int .i64 a,.int .u64 0,.int .i64 0,.int .i64 0,.int .i64 0,.int .i64 0] 45)) (.cells #[.int .i64 6,.int .i64 0,.int .i64 0,.int .i64 0,.int .u64 0,.int .i64 0,.int .i64 0,.int .i64 0,.int .i64 1,.int .i64 (2+M),.int .i64 0,.int .i64 0,.int .i64 a,.int .u64 0,.int .i64 0,.int .i64 0,.int .i64 0,.int .i64 0,.int .i64 1,.int .i64 2,.int .i64 0,.int .i64 0,.int .u64 0,.int .i64 0,.int .i64 0,.int .i64 0,.int .i64 0] 45)))
 have wF:=grow (ZZ w2 (.cells #[.pointer (some ⟨B.b,0,none⟩)] 31)) g4
 have A2:=A.grown Ew
 have S2:=S.grown Ew
 have wr4:=wr2.grown wF
 have R2:=GZ.start (Q:=vw) (HS:=yG a) (m:=93) (σb:=2000) A2 S2 wr4 (grow g2 wF) ⟨rfl,rfl,rfl⟩ hσ
 have v2:=((((ZP.new (w:=w1) (P:=L.p) (c0:=1) (c1:=30) (c2:=16) (c3:=40) (c4:=100) (c5:=600) (c6:=3) (who:=0) (T:=27)).grown (ZZ (w1.alloc (.cells #[.int .i64 1,.int .i64 30,.int .i64 16,.int .i64 40,.int .i64 100,.int .i64 600,.int .i64 3,.pointer (some ⟨L.p,0,none⟩),.int .i64 0] 27)) (.cells #[.int .i64 (2+M),.int .i64 0,.int .i64 0,.int .i64 a,.int .u64 0,.int .i64 0,.int .i64 0,.int .i64 0,.int .i64 0] 45))).grown (ZZ ((w1.alloc (.cells #[.int .i64 1,.int .i64 30,.int .i64 16,.int .i64 40,.int .i64 100,.int .i64 600,.int .i64 3,.pointer (some ⟨L.p,0,none⟩),.int .i64 0] 27)).alloc (.cells #[.int .i64 (2+M),.int .i64 0,.int .i64 0,.int .i64 a,.int .u64 0,.int .i64 0,.int .i64 0,.int .i64 0,.int .i64 0] 45)) (.cells #[.int .i64 6,.int .i64 0,.int .i64 0,.int .i64 0,.int .u64 0,.int .i64 0,.int .i64 0,.int .i64 0,.int .i64 1,.int .i64 (2+M),.int .i64 0,.int .i64 0,.int .i64 a,.int .u64 0,.int .i64 0,.int .i64 0,.int .i64 0,.int .i64 0,.int .i64 1,.int .i64 2,.int .i64 0,.int .i64 0,.int .u64 0,.int .i64 0,.int .i64 0,.int .i64 0,.int .i64 0] 45))).grown g2).grown wF
 have z0:(((w1.alloc (.cells #[.int .i64 1,.int .i64 30,.int .i64 16,.int .i64 40,.int .i64 100,.int .i64 600,.int .i64 3,.pointer (some ⟨L.p,0,none⟩),.int .i64 0] 27)).alloc (.cells #[.int .i64 (2+M),.int .i64 0,.int .i64 0,.int .i64 a,.int .u64 0,.int .i64 0,.int .i64 0,.int .i64 0,.int .i64 0] 45)).alloc (.cells #[.int .i64 6,.int .i64 0,.int .i64 0,.int .i64 0,.int .u64 0,.int .i64 0,.int .i64 0,.int .i64 0,.int .i64 1,.int .i64 (2+M),.int .i64 0,.int .i64 0,.int .i64 a,.int .u64 0,.int .i64 0,.int .i64 0,.int .i64 0,.int .i64 0,.int .i64 1,.int .i64 2,.int .i64 0,.int .i64 0,.int .u64 0,.int .i64 0,.int .i64 0,.int .i64 0,.int .i64 0] 45)).heap.size=w1.heap.size+1+1+1:=by rw[Go.Deep.nblk_alloc,Go.Deep.nblk_alloc,Go.Deep.nblk_alloc]
 have nE:¬ (L.has w1.heap.size\/B.has w1.heap.size):=fun hh=>by
  rcases hh with hh | hh
  . have:=A.lt _ hh;omega
  . have:=wr2.ge _ hh;omega
 have nP:¬ (L.has w2.heap.size\/B.has w2.heap.size):=fun hh=>by
  rcases hh with hh | hh
  . have:=A2.lt _ hh;have:=g2.size;omega
  . have:=wr2.lt _ hh;omega
 have tC:w4.cell? ⟨w2.heap.size,0,none⟩=some (.pointer (some ⟨B.b,0,none⟩)):=keep' g4 (ZW (o:=0) (Go.Deep.blk_alloc_new w2 (.cells #[.pointer (some ⟨B.b,0,none⟩)] 31)) rfl)
 have ok:=wE (2+M) a (by omega) w4 (fun x=>L.has x\/B.has x) (((w1.alloc (.cells #[.int .i64 1,.int .i64 30,.int .i64 16,.int .i64 40,.int .i64 100,.int .i64 600,.int .i64 3,.pointer (some ⟨L.p,0,none⟩),.int .i64 0] 27)).alloc (.cells #[.int .i64 (2+M),.int .i64 0,.int .i64 0,.int .i64 a,.int .u64 0,.int .i64 0,.int .i64 0,.int .i64 0,.int .i64 0] 45)).alloc (.cells #[.int .i64 6,.int .i64 0,.int .i64 0,.int .i64 0,.int .u64 0,.int .i64 0,.int .i64 0,.int .i64 0,.int .i64 1,.int .i64 (2+M),.int .i64 0,.int .i64 0,.int .i64 a,.int .u64 0,.int .i64 0,.int .i64 0,.int .i64 0,.int .i64 0,.int .i64 1,.int .i64 2,.int .i64 0,.int .i64 0,.int .u64 0,.int .i64 0,.int .i64 0,.int .i64 0,.int .i64 0] 45)).heap.size L bS B.b w2.heap.size tC nP
 have GW:Below w.heap.size w w4:=grow g1 (grow Ew (grow g2 wF))
 have tu:∀ x,L.has x\/B.has x->w.heap.size<=x:=fun x hx=>by
  rcases hx with hx | hx
  . exact hL x hx
  . have:=wr2.ge _ hx;have:=(grow g1 Ew).size;omega
 clear hbg wG A S hσ hL g1 A2 S2 wr2 g2 Ew wr4 wF g4 z0 hbad e4 m0 m3 b1 b2
 generalize (((w1.alloc (.cells #[.int .i64 1,.int .i64 30,.int .i64 16,.int .i64 40,.int .i64 100,.int .i64 600,.int .i64 3,.pointer (some ⟨L.p,0,none⟩),.int .i64 0] 27)).alloc (.cells #[.int .i64 (2+M),.int .i64 0,.int .i64 0,.int .i64 a,.int .u64 0,.int .i64 0,.int .i64 0,.int .i64 0,.int .i64 0] 45)).alloc (.cells #[.int .i64 6,.int .i64 0,.int .i64 0,.int .i64 0,.int .u64 0,.int .i64 0,.int .i64 0,.int .i64 0,.int .i64 1,.int .i64 (2+M),.int .i64 0,.int .i64 0,.int .i64 a,.int .u64 0,.int .i64 0,.int .i64 0,.int .i64 0,.int .i64 0,.int .i64 1,.int .i64 2,.int .i64 0,.int .i64 0,.int .u64 0,.int .i64 0,.int .i64 0,.int .i64 0,.int .i64 0] 45)).heap.size=B0 at *
 generalize ng:w2.heap.size=pb at *
 go_loopw [11] (fun iv wr=>∃ i:Nat,iv=.int .i64 i/\GZ w4 (fun x=>L.has x\/B.has x) B0 L bS B.b (Ea (2+M) a) vw (yG a) 93 2000 i wr) (fun iv _=>600 - (intOf iv).toNat)
 case atStart=>exact⟨0,rfl,R2⟩
 case round =>
  clear R2
  obtain⟨i,rfl,R⟩:=hrel
  have hi:i<=279:=R.le
  have hi5:(i:Int)<3000:=by omega
  have on:=R.on
  have vr:=v2.only on nE
  have hpr:wr.cell? ⟨pb,0,none⟩=some (.pointer (some ⟨B.b,0,none⟩)):=(on.cell (p:=⟨pb,0,none⟩) (World.block_lt_of_cell? _ _ tC) nP).trans tC
  rcases R.step ok (by omega) with⟨hE,he⟩ | ⟨he,hst⟩
  . have he:=he _ (Below.refl _ _)
    have GR:Below w.heap.size w wr:=GW.trans (on.below GW.size (fun k hk hs=>by have:=tu k hs;omega))
    obtain⟨B5,ts,os,ks,σ5,eb,⟨t0,t1,t2,rfl,hH0,hH1,hh1,hE1,hE2,hH2⟩,P⟩:=hE
    obtain⟨d5,AU⟩:=P.wr
    have htold:=fun w3 (g3:Below wr.heap.size wr w3)=>Qe (AU.grown g3)
    have Nk:=fun w3 (g3:Below wr.heap.size wr w3)=>Qd (AU.grown g3) a
    have mZ:=Ku hH0 hH1 hH2 a
    have ha2:(a == 2)=decide (a=2):=by
     by_cases e:a=2
     . subst e;rfl
     . rw[decide_eq_false e];simpa using e
    simp only[eb] at htold Nk
    clear P AU on R v2 vr GW ok
    go_wp2_with (first
     | (go_at_call 12;refine he.mono ?_;rintro e w3 ⟨rfl,g3⟩;have hpr:=keep' g3 hpr)
     | (go_at_call 17;refine(htold _ g3).mono ?_;rintro e w5 ⟨v5,rfl,s5,g5,f5⟩;have cp:=keep' g5 hpr))
    have yF:=grow g3 g5
    rcases s5 with⟨_,h5⟩ | ⟨gb,gc,e5,r5⟩
    . cases h5
    have e5:v5=.slice (some ⟨gb,0,none⟩) 3 gc:=e5
    subst e5
    have c29:w5.cell? ⟨gb,29,none⟩=some (.int .u64 0):=(r5.cell0 (i:=29) rfl).trans (by rw[hh1])
    have oG:w5.cell? ⟨gb,30,none⟩=some (.int .i64 3):=(r5.cell0 (i:=30) rfl).trans (by rw[hE1])
    have oD:w5.cell? ⟨gb,48,none⟩=some (.int .i64 0):=(r5.cell0 (i:=48) rfl).trans (by rw[hE2])
    have c49:w5.cell? ⟨gb,49,none⟩=some (.int .u64 t2.H):=r5.cell0 (i:=49) rfl
    clear r5 f5 htold hH0 hH1 hH2
    generalize madeOf [t0,t1,t2] a=MM at *
    generalize t2.H=HH at *
    generalize decide (a=2)=D at *
    refine ZK Grown 40 [.val (.slice (some ⟨gb,0,none⟩) 3 gc),.val (.int .i64 3),.val (.bool true),.val (.bool true),.val (.slice (some ⟨gb,0,none⟩) 3 gc),.val (.pointer (some ⟨gb,18,none⟩)),.val (.pointer (some ⟨gb,29,none⟩)),.val (.int .u64 0),.val (.bool true),.val (.bool true),.val (.bool true),.val (.slice (some ⟨gb,0,none⟩) 3 gc),.val (.pointer (some ⟨gb,18,none⟩)),.val (.pointer (some ⟨gb,30,none⟩)),.val (.pointer (some ⟨gb,30,none⟩)),.val (.int .i64 3),.val (.bool true),.val (.bool true),.val (.bool true),.val (.slice (some ⟨gb,0,none⟩) 3 gc),.val (.pointer (some ⟨gb,36,none⟩)),.val (.pointer (some ⟨gb,48,none⟩)),.val (.pointer (some ⟨gb,48,none⟩)),.val (.int .i64 0),.val (.bool true),.val (.bool true),.val (.bool true),.val (.pointer (some ⟨B.b,0,none⟩)),.val (.int .i64 a),.val (.int .u64 MM),.val (.slice (some ⟨gb,0,none⟩) 3 gc),.val (.pointer (some ⟨gb,36,none⟩)),.val (.pointer (some ⟨gb,48,none⟩)),.val (.pointer (some ⟨gb,49,none⟩)),.val (.int .u64 HH),.val (.bool D),.val (.int .i64 a),.val (.bool D),.val (.bool true),.val (.bool true)] (by kernel_rfl) Grown.refl Grown.trans (by decide) (by kernel_rfl) (by kernel_rfl) (by kernel_rfl) (by kernel_rfl) (by kernel_rfl) (by kernel_rfl) ?_
    simp only[List.take_succ_cons,List.take_zero,ZH,Act.put,List.setIfInBounds_toArray,List.set_cons_zero,List.set_cons_succ]
    refine⟨?_,⟨?_,⟨?_,⟨?_,⟨?_,⟨?_,⟨?_,⟨?_,⟨?_,⟨?_,⟨?_,⟨?_,⟨?_,⟨?_,⟨?_,⟨?_,⟨?_,⟨?_,⟨?_,⟨?_,⟨?_,⟨?_,⟨?_,⟨?_,⟨?_,⟨?_,⟨?_,⟨?_,⟨?_,⟨?_,⟨?_,⟨?_,⟨?_,⟨?_,⟨?_,⟨?_,⟨?_,⟨?_,⟨?_,⟨?_,?_⟩⟩⟩⟩⟩⟩⟩⟩⟩⟩⟩⟩⟩⟩⟩⟩⟩⟩⟩⟩⟩⟩⟩⟩⟩⟩⟩⟩⟩⟩⟩⟩⟩⟩⟩⟩⟩⟩⟩⟩
    . intro w' hg HF
      apply ol
      clear HF
      go_simp
      exact gl
    . intro w' hg HF
      apply ol
      clear HF
      go_simp
      exact gl
    . intro w' hg HF
      apply ol
      clear HF
      go_simp
      exact gl
    . intro w' hg HF
      apply ol
      clear HF
      go_simp
      exact gl
    . intro w' hg HF
      apply ol
      clear HF
      go_simp
      exact gl
    . intro w' hg HF
      apply ol
      clear HF
      go_simp
      exact gl
    . intro w' hg HF
      apply ol
      clear HF
      go_simp
      exact gl
    . intro w' hg HF
      apply ol
      have k:=keep' (w:=w5.drew) hg c29
      clear HF
      go_simp
      exact gl
    . intro w' hg HF
      apply ol
      clear HF
      go_simp
      exact gl
    . intro w' hg HF
      apply ol
      clear HF
      go_simp
      exact gl
    . intro w' hg HF
      apply ol
      clear HF
      go_simp
      exact gl
    . intro w' hg HF
      apply ol
      clear HF
      go_simp
      exact gl
    . intro w' hg HF
      apply ol
      clear HF
      go_simp
      exact gl
    . intro w' hg HF
      apply ol
      clear HF
      go_simp
      exact gl
    . intro w' hg HF
      apply ol
      clear HF
      go_simp
      exact gl
    . intro w' hg HF
      apply ol
      have k:=keep' (w:=w5.drew) hg oG
      clear HF
      go_simp
      exact gl
    . intro w' hg HF
      apply ol
      clear HF
      go_simp
      exact gl
    . intro w' hg HF
      apply ol
      clear HF
      go_simp
      exact gl
    . intro w' hg HF
      apply ol
      clear HF
      go_simp
      exact gl
    . intro w' hg HF
      apply ol
      clear HF
      go_simp
      exact gl
    . intro w' hg HF
      apply ol
      clear HF
      go_simp
      exact gl
    . intro w' hg HF
      apply ol
      clear HF
      go_simp
      exact gl
    . intro w' hg HF
      apply ol
      clear HF
      go_simp
      exact gl
    . intro w' hg HF
      apply ol
      have k:=keep' (w:=w5.drew) hg oD
      clear HF
      go_simp
      exact gl
    . intro w' hg HF
      apply ol
      clear HF
      go_simp
      exact gl
    . intro w' hg HF
      apply ol
      clear HF
      go_simp
      exact gl
    . intro w' hg HF
      apply ol
      clear HF
      go_simp
      exact gl
    . intro w' hg HF
      apply ol
      have k:=keep' (w:=w5.drew) hg cp
      clear HF
      go_simp
      exact gl
    . intro w' hg HF
      apply ol
      clear HF
      go_simp
      exact gl
    . intro w' hg HF
      apply ol
      have hmd:=Nk _ (grow yF (grow ((Below.refl _ _).drew) hg))
      clear HF
      go_simp
      refine hmd.mono ?_
      rintro e w'' ⟨rfl,rfl⟩
      exact⟨_,rfl,Grown.refl _,rfl⟩
    . intro w' hg HF
      apply ol
      clear HF
      go_simp
      exact gl
    . intro w' hg HF
      apply ol
      clear HF
      go_simp
      exact gl
    . intro w' hg HF
      apply ol
      clear HF
      go_simp
      exact gl
    . intro w' hg HF
      apply ol
      clear HF
      go_simp
      exact gl
    . intro w' hg HF
      apply ol
      have k:=keep' (w:=w5.drew) hg c49
      clear HF
      go_simp
      exact gl
    . intro w' hg HF
      apply ol
      clear HF
      go_simp
      exact gl
    . intro w' hg HF
      apply ol
      clear HF
      go_simp
      exact gl
    . intro w' hg HF
      apply ol
      clear HF
      go_simp
      exact gl
    . intro w' hg HF
      apply ol
      clear HF
      go_simp
      exact gl
    . intro w' hg HF
      apply ol
      clear HF
      go_simp
      exact gl
    intro w6 hg _
    go_wp2
    go_ret
    exact⟨rfl,grow GR (grow yF (grow ((Below.refl _ _).drew) hg))⟩
  . have he:=he _ (Below.refl _ _)
    have HI:Hid (i<=279):=hi
    clear hi R on
    go_wp2_with (first
     | (go_at_call 12;refine he.mono ?_;rintro e w3 ⟨rfl,g3⟩;have hpr:=keep' g3 hpr;have v3:=vr.grown g3;obtain⟨y0,y1,y2,y3,y4,y5,y6,y7,y8⟩:=id v3)
     | (go_at_call 13;refine(hst _ g3).mono ?_;rintro e w4 ⟨rfl,R4⟩))
    go_roundw
    case rel=>exact⟨i+1,by go_num,R4⟩
    case measure=>have:=HI.out;simp[intOf];omega
end
end Go.Proofs.YtgehjolndmgffaaGreat
