import Derived.Test.YtgehjolndmgffaaGreatFrmPlay
import Derived.Test.YtgehjolndmgffaaGreatWrkGo
import Derived.Test.YtgehjolndmgffaaGreatAllocSound
namespace Go.Proofs.YtgehjolndmgffaaGreat
open Go.RowKit
section
theorem QU (h:Int) (ws:List Int):∀ (b:Bool) (os:Os),(Yz h ws b os).length<=os.length+(if b then 0 else 1)
 | b,[]=>by unfold Yz;cases b <;> simp
 | b,(a,u) :: l=>by
  have ih:=QU h ws (b || decide (h<=a)) l
  unfold Yz
  simp only[List.length_append,List.length_cons]
  by_cases hl:b=false/\h<=a
  . rw[if_pos hl]
    obtain⟨rfl,hl⟩:=hl
    rw[decide_eq_true hl] at ih ⊢
    have:(if a≠h then [(a,u)] else []).length<=1:=by split <;> simp
    simp at ih ⊢
    simp at this
    omega
  . rw[if_neg hl]
    have:(if a≠h then [(a,u)] else []).length<=1:=by split <;> simp
    cases b with
    | true=>simp at ih this ⊢;omega
    | false =>
     have hd:decide (h<=a)=false:=decide_eq_false fun e=>hl ⟨rfl,e⟩
     rw[hd] at ih ⊢
     simp at ih this ⊢;omega
theorem P7 (x:Int):∀ (b:Bool) (ks:List Int),(Xi x b ks).length<=ks.length+(if b then 0 else 1)
 | b,[]=>by unfold Xi;cases b <;> simp
 | b,a :: l=>by
  have ih:=P7 x (b || decide (x<=a)) l
  unfold Xi
  simp only[List.length_append,List.length_cons]
  by_cases hl:b=false/\x<=a
  . rw[if_pos hl]
    obtain⟨rfl,hl⟩:=hl
    rw[decide_eq_true hl] at ih ⊢
    have:(if a≠x then [a] else []).length<=1:=by split <;> simp
    simp at ih ⊢
    simp at this
    omega
  . rw[if_neg hl]
    have:(if a≠x then [a] else []).length<=1:=by split <;> simp
    cases b with
    | true=>simp at ih this ⊢;omega
    | false =>
     have hd:decide (x<=a)=false:=decide_eq_false fun e=>hl ⟨rfl,e⟩
     rw[hd] at ih ⊢
     simp at ih this ⊢;omega
theorem En {kd sz ix vl ol ky h E H V:Int} {os os':Os} {ks ks':List Int} {b:Bool} (e:Xt kd sz ix vl ol ky h E H V os ks=((os',ks'),b)):os'.length<=os.length+1/\ks'.length<=ks.length+1:=by
 have hw:∀ h ws,(Yz h ws false os).length<=os.length+1:=fun h ws=>QU h ws false os
 have hp:=P7 ky false ks
 have hf:(YS h os).length<=os.length:=List.length_filter_le _ _
 have hg:(ks.filter fun a=>decide (a≠ky)).length<=ks.length:=List.length_filter_le _ _
 unfold Xt at e
 repeat' (split at e)
 all_goals (simp only[Prod.mk.injEq] at e;obtain⟨⟨rfl,rfl⟩,-⟩:=e)
 all_goals (constructor <;> first | omega | exact Nat.le_succ _ | exact hw _ _ | exact hp | exact Nat.le_trans hf (Nat.le_succ _) | exact Nat.le_trans hg (Nat.le_succ _))
end
section
set_option maxRecDepth 20000
def Bg (L:Loc) (bS:Nat) (w w':World):Prop:=∃ Bs σ,Ar L w' σ 1 [] []/\Sh w' L Bs bS 3/\σ<=2000/\∀ x,L.has x->w.heap.size<=x
theorem Sh.vK {w w':World} {L:Loc} {B0 b N:Nat} {S:Nat->Prop} (h:Sh w L B0 b N) (o:Only S w w') (hs:∀ x,B0<=x->¬ S x):Sh w' L B0 b N:=⟨by obtain⟨c,v,a,k,n⟩:=h.ex;exact⟨c,v,a.only o (hs b h.ge),k.only o (fun x hx=>hs x (n x hx).2.1),n⟩,h.nb,h.ge,h.le⟩
set_option maxRecDepth 20000 in
set_option maxHeartbeats 1000000 in
theorem Qb (w:World):Calls Tryz.prog 7 #[iV 1] w fun e w'=>∃ L bS,e=.returned (.tuple #[QW L,pP bS 0,.bool true])/\Bg L bS w w'/\Below w.heap.size w w':=by
 have HG:Hid (Good 1 30 16 40 100 600 3):=OV
 have ar:=fun w=>Ew HG.out (by decide) w
 have aN:=At.new w 27 [iV 0,iV 0,iV 0,iV 0,iV 0,iV 0,iV 0,.pointer none,iV 0]
 go_enter Tryz.func7,Tryz.ntmps7
 go_wp2_with (first
  | (go_at_call 20;refine(ar _).mono ?_;rintro e w1 ⟨L,s,rfl,m1,v1,b1,l1⟩;have vN:=(ZP.new (w:=w1) (P:=L.p) (c0:=1) (c1:=30) (c2:=16) (c3:=40) (c4:=100) (c5:=600) (c6:=3) (who:=0) (T:=27));obtain⟨y0,y1,y2,y3,y4,y5,y6,y7,y8⟩:=id vN)
  | (go_at_call 21;refine(GZ (hds0 (t:=1) (n:=30) (k:=16) (m:=40)) (m1.alloc _) v1 HG.out (by decide) (K:=3) (by decide) (by decide) (by decide) 0 (by decide) (by decide)).mono ?_;rintro e w2 ⟨s2,σ2,q2,bz,rfl,m2,v2,hs2,o2,S2,A2⟩;have hLx:¬ L.has w1.heap.size:=fun hh=>(by have:=m1.lt _ hh;omega);have hL0:¬ L.has w.heap.size:=fun hh=>(by have:=l1 _ hh;rw[Go.Deep.nblk_alloc] at this;omega);have vM:=vN.only o2 hLx;obtain⟨y0,y1,y2,y3,y4,y5,y6,y7,y8⟩:=id vM;have aR:=((aN.grown b1).grown (ZZ w1 (.cells #[iV 1,iV 30,iV 16,iV 40,iV 100,iV 600,iV 3,pP L.p 0,iV 0] 27))).only o2 hL0;have q0:=aR.at0 0 rfl;have q1:=aR.at0 1 rfl;have q2':=aR.at0 2 rfl;have q3:=aR.at0 3 rfl;have q4:=aR.at0 4 rfl;have q5:=aR.at0 5 rfl;have q6:=aR.at0 6 rfl;have q7:=aR.at0 7 rfl;have q8:=aR.at0 8 rfl;have kf:=aR.fz))
 have B2:Below w.heap.size w w2:=JB (grow (grow (ZZ w _) b1) (ZZ w1 _)) o2 (fun x hx=>Nat.le_trans (ZZ w _).size (l1 x hx))
 have hLw:∀ x,L.has x->w.heap.size<=x:=fun x hx=>Nat.le_trans (ZZ w _).size (l1 x hx)
 have oR:=((((((((((Only.refl (fun x=>x=w.heap.size) w2).setCell (a:=⟨w.heap.size,0,none⟩) (fun _=>rfl) (iV 1)).setCell (a:=⟨w.heap.size,1,none⟩) (fun _=>rfl) (iV 30)).setCell (a:=⟨w.heap.size,2,none⟩) (fun _=>rfl) (iV 16)).setCell (a:=⟨w.heap.size,3,none⟩) (fun _=>rfl) (iV 40)).setCell (a:=⟨w.heap.size,4,none⟩) (fun _=>rfl) (iV 100)).setCell (a:=⟨w.heap.size,5,none⟩) (fun _=>rfl) (iV 600)).setCell (a:=⟨w.heap.size,6,none⟩) (fun _=>rfl) (iV 3)).setCell (a:=⟨w.heap.size,7,none⟩) (fun _=>rfl) (pP L.p 0)).setCell (a:=⟨w.heap.size,8,none⟩) (fun _=>rfl) (iV 0))
 refine bodyPost_ret (v:=.tuple #[QW L,pP bz 0,.bool true]) (by simp[results,Tryz.results7,go_sem,q0,q1,q2',q3,q4,q5,q6,q7,q8]) rfl ⟨L,bz,rfl,⟨_,σ2,?_,S2.vK oR (fun x hx e=>?_),?_,hLw⟩,B2.trans (oR.below B2.size (fun i hi hs=>absurd hs (by omega)))⟩
 . have nM:∀ x,L.has x->¬ (x=w.heap.size):=fun x hx e=>hL0 (e ▸ hx)
   obtain⟨K,S⟩:=A2.wk (by decide) (by decide) lf3
   exact(Ar.only (S:=fun x=>x=w.heap.size) ⟨s2,q2,1,fun _=>1,_,fun _=>[],⟨m2,v2,K.tm,A2.covers⟩,K,S,fun _=>Nat.le_refl _,Nat.le_refl _⟩ oR nM)
 . have:=b1.size;rw[Go.Deep.nblk_alloc] at this hx;omega
 . omega
end
section
def Am (Wn:World) (FS:Nat->Prop) (B0:Nat) (L:Loc) (bS b:Nat) (cs:List Wc) (Q:Nat->List Td->Os->List Int->Prop) (HS:Nat->List Td->Int) (m i σ:Nat) (w:World):Prop :=
 ∃ B j ts os ks,SS.b B=b/\Q j ts os ks/\j<=cs.length /\
  ((Ap Wn FS B0 L bS cs B j ts os ks (j+1) w σ/\i<=m * j)\/(j<cs.length/\∃ c σ0 R,yJ Wn FS B0 L bS cs B j ts os ks (j+1) c (HS j ts) σ0 R w σ/\i+R+1<=m * (j+1)))
def Ep (Wn:World) (FS:Nat->Prop) (B0:Nat) (L:Loc) (bS b:Nat) (cs:List Wc) (Q:Nat->List Td->Os->List Int->Prop) (HS:Nat->List Td->Int) (m σb i:Nat) (w:World):Prop :=
 ∃ σ,σ<=σb+i/\Am Wn FS B0 L bS b cs Q HS m i σ w
structure yM (Wn:World) (FS:Nat->Prop) (B0:Nat) (L:Loc) (bS b:Nat) (cs:List Wc) (Q:Nat->List Td->Os->List Int->Prop) (HS:Nat->List Td->Int) (m:Nat) (mv:Value):Prop where
 hn:cs.length<=40
 hq:∀ j ts os ks c E H V St σ0 σ' os' ks',Q j ts os ks->ts.length=j->cs[j]?=some c->vI c (HS j ts) os ks (j+1) E H V os' ks'->Q (j+1) (ts ++ [⟨0,j,c,HS j ts,E,H,V,St,σ0,σ'⟩]) os' ks'
 hm:∀ j ts os ks,Q j ts os ks->j<cs.length->93+16 * ks.length<=m
 may:∀ c∈cs,c.may=true/\Fit c.sz
 wd:∀ j ts os ks,Q j ts os ks->ts.length=j->j<cs.length->Wd (HS j ts)
 hr:∀ (B:SS) j ts os ks c (w w1:World),B.b=b->Q j ts os ks->ts.length=j->cs[j]?=some c->(∃ qs d,XL w B0 B 0 (some ⟨bS,0,none⟩) cs qs .nilIface d ts)->Only (fun x=>x=B.Q.c) w w1->Only FS Wn w1->Calls Tryz.prog 42 #[c.rf,mv] w1 fun e w'=>e=.returned (.int .u64 (HS j ts))/\Below w1.heap.size w1 w'
section
variable {Wn:World} {FS:Nat->Prop} {B0:Nat} {L:Loc} {bS b:Nat} {cs:List Wc} {Q:Nat->List Td->Os->List Int->Prop} {HS:Nat->List Td->Int} {m σb i:Nat} {w:World} {mv:Value}
theorem Am.le {σ:Nat} (R:Am Wn FS B0 L bS b cs Q HS m i σ w):i<=m * cs.length:=by
 obtain⟨B,j,ts,os,ks,eb,hQ,hj,⟨P,hi⟩ | ⟨hj2,c,σ0,Rr,P,hi⟩⟩:=R
 . exact Nat.le_trans hi (Nat.mul_le_mul_left _ hj)
 . exact Nat.le_trans (by omega:i<=m * (j+1)) (Nat.mul_le_mul_left _ hj2)
theorem Ep.le (R:Ep Wn FS B0 L bS b cs Q HS m σb i w):i<=m * cs.length:=by
 obtain⟨σ,-,R⟩:=R
 exact R.le
theorem Am.on {σ:Nat} (R:Am Wn FS B0 L bS b cs Q HS m i σ w):Only FS Wn w:=by
 obtain⟨B,j,ts,os,ks,eb,hQ,hj,⟨P,hi⟩ | ⟨hj2,c,σ0,Rr,P,hi⟩⟩:=R
 . exact P.on
 . obtain⟨T,p,lo,h1,h2,h3⟩:=P.wr
   exact h2.1
theorem Ep.on (R:Ep Wn FS B0 L bS b cs Q HS m σb i w):Only FS Wn w:=by
 obtain⟨σ,-,R⟩:=R
 exact R.on
def qo (Wn:World) (FS:Nat->Prop) (B0:Nat) (L:Loc) (bS b:Nat) (cs:List Wc) (Q:Nat->List Td->Os->List Int->Prop) (w:World):Prop :=
 ∃ B ts os ks σ,SS.b B=b/\Q cs.length ts os ks/\Ap Wn FS B0 L bS cs B cs.length ts os ks (cs.length+1) w σ
theorem Am.step {σ:Nat} (R:Am Wn FS B0 L bS b cs Q HS m i σ w) (ok:yM Wn FS B0 L bS b cs Q HS m mv) (hσ:σ<1000000) :
 (qo Wn FS B0 L bS b cs Q w/\∀ w1,Below w.heap.size w w1->Calls Tryz.prog 12 #[.pointer (some ⟨b,0,none⟩)] w1 fun e w'=>e=.returned (.bool true)/\Below w1.heap.size w1 w') \/
 ((∀ w1,Below w.heap.size w w1->Calls Tryz.prog 12 #[.pointer (some ⟨b,0,none⟩)] w1 fun e w'=>e=.returned (.bool false)/\Below w1.heap.size w1 w') /\
  ∀ w1,Below w.heap.size w w1->Calls Tryz.prog 13 #[.pointer (some ⟨b,0,none⟩),QW L,mv] w1 fun e w'=>e=.returned (.bool true)/\∃ σ',σ'<=σ+1/\Am Wn FS B0 L bS b cs Q HS m (i+1) σ' w'):=by
 obtain⟨B,j,ts,os,ks,rfl,hQ,hj,⟨P,hi⟩ | ⟨hj2,c,σ0,Rr,P,hi⟩⟩:=R
 . obtain⟨d,wr⟩:=P.wr
   by_cases hjn:j=cs.length
   . subst hjn
     left
     refine⟨⟨B,ts,os,ks,σ,rfl,hQ,P⟩,fun w1 g=>?_⟩
     refine(U4 (wr.grown g)).mono ?_
     rintro e w' ⟨rfl,g'⟩
     exact⟨by rw[decide_eq_true P.len],g'⟩
   . right
     have hjl:j<cs.length:=by omega
     obtain⟨c,hc⟩:∃ c,cs[j]?=some c:=⟨_,List.getElem?_eq_getElem hjl⟩
     obtain⟨hm1,hm2⟩:=ok.may c (List.mem_of_getElem? hc)
     refine⟨fun w1 g=>?_,fun w1 g=>?_⟩
     . refine(U4 (wr.grown g)).mono ?_
       rintro e w' ⟨rfl,g'⟩
       exact⟨by rw[decide_eq_false (by rw[P.len];exact hjn)],g'⟩
     . have P1:=P.grown g
       have ny:B.has B.Q.c:=Or.inr (Or.inr (Or.inl rfl))
       have hszW:=P1.on.size
       refine(P1.step hc (by have:=ok.hn;omega) (by omega) (by have:=ok.hn;omega) hm1 hm2 (ok.wd j ts os ks hQ P.len hjl) (fun w2 o2 _=>ok.hr B j ts os ks c w1 w2 rfl hQ P.len hc ⟨_,_,wr.grown g⟩ o2 (P1.on.grow o2 (fun x hx e=>by have e:x=B.Q.c:=e;rw[e] at hx ⊢;exact(P.bf _ ny).resolve_right (by omega))))).mono ?_
       rintro e w' ⟨rfl,hh⟩
       have hmj:=ok.hm j ts os ks hQ hjl
       refine⟨rfl,?_⟩
       rcases hh with⟨R',σ',hR,hs',P'⟩ | ⟨B',E,H,V,St,os',ks',σ',hs',eb,hR,P'⟩
       . exact⟨σ',hs',B,j,ts,os,ks,rfl,hQ,hj,Or.inr ⟨hjl,c,_,R',P',by rw[Nat.mul_succ];omega⟩⟩
       . exact⟨σ',hs',B',j+1,_,os',ks',eb,ok.hq j ts os ks c E H V St _ σ' os' ks' hQ P.len hc hR,hjl,Or.inl ⟨P',by rw[Nat.mul_succ];omega⟩⟩
 . right
   obtain⟨T,p,lo,wr,U,hlo⟩:=P.wr
   refine⟨fun w1 g=>?_,fun w1 g=>?_⟩
   . refine(U4 (wr.grown g)).mono ?_
     rintro e w' ⟨rfl,g'⟩
     exact⟨by rw[decide_eq_false (by rw[P.len];omega)],g'⟩
   . refine((P.grown g).step (by have:=ok.hn;omega) (by omega) (by have:=ok.hn;omega) mv).mono ?_
     rintro e w' ⟨rfl,hh⟩
     refine⟨rfl,?_⟩
     rcases hh with⟨R',σ',hR,hs',P'⟩ | ⟨B',E,H,V,St,os',ks',σ',hs',eb,hR,P'⟩
     . exact⟨σ',hs',B,j,ts,os,ks,rfl,hQ,hj,Or.inr ⟨hj2,c,_,R',P',by omega⟩⟩
     . have hi2:i+1<=m * (j+1):=by omega
       exact⟨σ',hs',B',j+1,_,os',ks',eb,ok.hq j ts os ks c E H V St _ σ' os' ks' hQ P.len P.at_ hR,hj2,Or.inl ⟨P',hi2⟩⟩
theorem Ep.step (R:Ep Wn FS B0 L bS b cs Q HS m σb i w) (ok:yM Wn FS B0 L bS b cs Q HS m mv) (hσ:σb+i<1000000) :
 (qo Wn FS B0 L bS b cs Q w/\∀ w1,Below w.heap.size w w1->Calls Tryz.prog 12 #[.pointer (some ⟨b,0,none⟩)] w1 fun e w'=>e=.returned (.bool true)/\Below w1.heap.size w1 w') \/
 ((∀ w1,Below w.heap.size w w1->Calls Tryz.prog 12 #[.pointer (some ⟨b,0,none⟩)] w1 fun e w'=>e=.returned (.bool false)/\Below w1.heap.size w1 w') /\
  ∀ w1,Below w.heap.size w w1->Calls Tryz.prog 13 #[.pointer (some ⟨b,0,none⟩),QW L,mv] w1 fun e w'=>e=.returned (.bool true)/\Ep Wn FS B0 L bS b cs Q HS m σb (i+1) w'):=by
 obtain⟨σ,hs,R⟩:=R
 refine(R.step ok (by omega)).imp id fun h=>⟨h.1,fun w1 g=>(h.2 w1 g).mono ?_⟩
 rintro e w' ⟨rfl,σ',hs',R'⟩
 exact⟨rfl,σ',by omega,R'⟩
end
end
section
set_option maxRecDepth 20000
theorem Kq (r:Value) (a b c:Int) (hr:r=.agg #[.int .i64 a,.int .i64 b,.int .u64 c]) (w:World):Calls Tryz.prog 14 #[r] w fun e w'=>e=.returned (.int .u64 0)/\Below w.heap.size w w':=by
 subst hr
 go_enter Tryz.func14,Tryz.ntmps14
 go_wp2
 go_ret
 exact⟨rfl,ZZ _ _⟩
theorem Rz.yN {w:World} {T:TypeId} {z b:Nat} {c:Array Value} (k:w.heap[b]?=some (.cells c T (0,0))) (l:List (List Value)) (hc:c=l.flatten.toArray) (hl:∀ e∈l,e.length=z):Rz w T z b l.length l :=
 ⟨⟨c,k,by rw[hc];simp only[List.size_toArray];rw[WY hl];exact Nat.le_refl _,fun i x h=>by rw[hc];simpa using h⟩,Nat.le_refl _,hl⟩
theorem Ep.start {w0 Wn:World} {L:Loc} {B:SS} {bS Bs σ:Nat} {cs:List Wc} {d:Td} {Q:Nat->List Td->Os->List Int->Prop} {HS:Nat->List Td->Int} {m σb:Nat} (A:Ar L w0 σ 1 [] []) (S:Sh w0 L Bs bS 3) (wr:XL Wn w0.heap.size B 0 (some ⟨bS,0,none⟩) cs (Eo cs.length) .nilIface d []) (g:Below w0.heap.size w0 Wn) (hQ:Q 0 [] [] []) (hσ:σ<=σb) :
 Ep Wn (fun x=>L.has x\/B.has x) w0.heap.size L bS B.b cs Q HS m σb 0 Wn:=by
 refine⟨σ,by omega,B,0,[],[],[],rfl,hQ,Nat.zero_le _,Or.inl ⟨⟨Only.refl _ _,⟨d,wr⟩,rfl,A.grown g,fun x hx=>Nat.lt_of_lt_of_le (A.lt x hx) g.size,S.low.only (S:=fun _=>False) (Only.Z5 g) (fun _ h=>h.elim),⟨fun x hx=>⟨Or.inl hx,A.lt x hx⟩,fun x hx=>hx.imp id (wr.ge x),g.size⟩,fun x hx=>Or.inl (Or.inr hx)⟩,Nat.zero_le _⟩⟩
def yt:List Wc:=[⟨1,2,0,0,0,0,0,0,0⟩,⟨7,0,0,0,0,0,0,0,7⟩]
def sG:Nat->List Td->Os->List Int->Prop
 | 0,ts,os,ks=>ts=[]/\os=[]/\ks=[]
 | 1,ts,os,ks=>∃ t0:Td,ts=[t0]/\t0.E=0/\os.length<=1/\ks=[]
 | 2,ts,_,_=>∃ t0 t1:Td,ts=[t0,t1]/\t0.E=0/\t1.V=1
 | _+3,_,_,_=>False
theorem vS (Wn:World) (FS:Nat->Prop) (B0:Nat) (L:Loc) (bS b:Nat):yM Wn FS B0 L bS b yt sG (fun _ _=>0) 93 (.func (.func 14) #[] #[]):=by
 refine⟨by decide,fun j ts os ks c E H V St σ0 σ' os' ks' hQ hl hc hR=>?_,fun j ts os ks hQ hj=>?_,fun c hc=>?_,fun j ts os ks _ _ _=>⟨by decide,by decide⟩,fun B j ts os ks c w w1 _ _ _ hc _ _ _=>?_⟩
 . match j,hQ with
   | 0,⟨h1,h2,h3⟩ =>
    subst h1 h2 h3
    cases hc
    obtain⟨est,hH,sF,hroom⟩:=hR
    have hE:E=0:=hroom (Or.inl ⟨rfl,by decide⟩) (by decide) (by decide)
    have hlen:=(En est).1
    refine⟨_,rfl,hE,hlen,?_⟩
    unfold Xt at est
    rw[if_pos rfl,if_neg (by decide),if_neg (fun h=>h hE)] at est
    simp only[Prod.mk.injEq] at est
    exact est.1.2.symm
   | 1,⟨t0,h1,h2,h3,h4⟩ =>
    subst h1 h4
    cases hc
    obtain⟨est,hH,sF,hroom⟩:=hR
    have hE:E=0:=hroom (Or.inr (by decide)) (by decide) (by simp;omega)
    refine⟨t0,_,rfl,h2,?_⟩
    unfold Xt at est
    rw[if_neg (by decide),if_neg (by decide),if_neg (by decide),if_neg (by decide),if_pos rfl,if_neg (fun h=>h hE)] at est
    simp only[Prod.mk.injEq] at est
    exact(of_decide_eq_true est.2).trans (by simp)
   | 2,_=>cases hc
   | _+3,h=>exact h.elim
 . match j,hQ with
   | 0,⟨_,_,h3⟩=>subst h3;decide
   | 1,⟨_,_,_,_,h4⟩=>subst h4;decide
   | n+2,_=>exact absurd hj (by show ¬ n+2<2;omega)
 . simp only[yt,List.mem_cons,List.not_mem_nil,or_false] at hc
   rcases hc with rfl | rfl
   . exact⟨by decide,by decide,by decide⟩
   . exact⟨by decide,by decide,by decide⟩
 . have hrt:¬ c.rt<0:=by
    have:=List.mem_of_getElem? hc
    simp only[yt,List.mem_cons,List.not_mem_nil,or_false] at this
    rcases this with rfl | rfl <;> decide
   exact QH c hrt 0 w1 (fun w2 _=>Kq _ _ _ _ rfl w2)
set_option maxRecDepth 20000 in
set_option maxHeartbeats 4000000 in
theorem Nh (w:World):Calls Tryz.prog 10 #[] w fun e w'=>e=.returned (.bool true)/\Below w.heap.size w w':=by
 have hbg:=Qb w
 have qB:∀ (w1:World) (Lp:Nat),((w1.alloc (.cells #[.int .i64 1,.int .i64 30,.int .i64 16,.int .i64 40,.int .i64 100,.int .i64 600,.int .i64 3,.pointer (some ⟨Lp,0,none⟩),.int .i64 0] 27)).alloc (.cells #[.int .i64 1,.int .i64 2,.int .i64 0,.int .i64 0,.int .u64 0,.int .i64 0,.int .i64 0,.int .i64 0,.int .i64 0,.int .i64 7,.int .i64 0,.int .i64 0,.int .i64 0,.int .u64 0,.int .i64 0,.int .i64 0,.int .i64 0,.int .i64 7] 45)).heap[w1.heap.size+1]?=some (.cells #[.int .i64 1,.int .i64 2,.int .i64 0,.int .i64 0,.int .u64 0,.int .i64 0,.int .i64 0,.int .i64 0,.int .i64 0,.int .i64 7,.int .i64 0,.int .i64 0,.int .i64 0,.int .u64 0,.int .i64 0,.int .i64 0,.int .i64 0,.int .i64 7] 45):=fun w1 Lp=>by
  have:=Go.Deep.blk_alloc_new (w1.alloc (.cells #[.int .i64 1,.int .i64 30,.int .i64 16,.int .i64 40,.int .i64 100,.int .i64 600,.int .i64 3,.pointer (some ⟨Lp,0,none⟩),.int .i64 0] 27)) (.cells #[.int .i64 1,.int .i64 2,.int .i64 0,.int .i64 0,.int .u64 0,.int .i64 0,.int .i64 0,.int .i64 0,.int .i64 0,.int .i64 7,.int .i64 0,.int .i64 0,.int .i64 0,.int .u64 0,.int .i64 0,.int .i64 0,.int .i64 0,.int .i64 7] 45)
  rw[Go.Deep.nblk_alloc] at this
  exact this
 go_enter Tryz.func10,Tryz.ntmps10
 go_wp2_with (first
  | (go_at_call 7;refine hbg.mono ?_;rintro e w1 ⟨L,bS,rfl,⟨Bs,σ,A,S,hσ,hL⟩,g1⟩)
  | (go_at_call 8;refine(Qa (cs:=yt) (n:=3) 0 (by decide) (Or.inr ⟨_,2,rfl,Rz.yN (qB w1 L.p) (yt.map Wc.l) rfl (by decide)⟩) (by decide) (Or.inr ⟨bS,rfl,S.sh.grown (grow (ZZ w1 _) (ZZ _ _))⟩) (by decide)).mono ?_;rintro e w2 ⟨B,rfl,wr2,g2⟩))
 have vP:=grow (ZZ w1 (.cells #[.int .i64 1,.int .i64 30,.int .i64 16,.int .i64 40,.int .i64 100,.int .i64 600,.int .i64 3,.pointer (some ⟨L.p,0,none⟩),.int .i64 0] 27)) (ZZ (w1.alloc (.cells #[.int .i64 1,.int .i64 30,.int .i64 16,.int .i64 40,.int .i64 100,.int .i64 600,.int .i64 3,.pointer (some ⟨L.p,0,none⟩),.int .i64 0] 27)) (.cells #[.int .i64 1,.int .i64 2,.int .i64 0,.int .i64 0,.int .u64 0,.int .i64 0,.int .i64 0,.int .i64 0,.int .i64 0,.int .i64 7,.int .i64 0,.int .i64 0,.int .i64 0,.int .u64 0,.int .i64 0,.int .i64 0,.int .i64 0,.int .i64 7] 45))
 have A2:=A.grown vP
 have S2:=S.grown vP
 have R2:=Ep.start (Q:=sG) (HS:=fun _ _=>0) (m:=93) (σb:=2000) A2 S2 wr2 g2 ⟨rfl,rfl,rfl⟩ hσ
 have v2:=((ZP.new (w:=w1) (P:=L.p) (c0:=1) (c1:=30) (c2:=16) (c3:=40) (c4:=100) (c5:=600) (c6:=3) (who:=0) (T:=27)).grown (ZZ (w1.alloc (.cells #[.int .i64 1,.int .i64 30,.int .i64 16,.int .i64 40,.int .i64 100,.int .i64 600,.int .i64 3,.pointer (some ⟨L.p,0,none⟩),.int .i64 0] 27)) (.cells #[.int .i64 1,.int .i64 2,.int .i64 0,.int .i64 0,.int .u64 0,.int .i64 0,.int .i64 0,.int .i64 0,.int .i64 0,.int .i64 7,.int .i64 0,.int .i64 0,.int .i64 0,.int .u64 0,.int .i64 0,.int .i64 0,.int .i64 0,.int .i64 7] 45))).grown g2
 have nE:¬ (L.has w1.heap.size\/B.has w1.heap.size):=fun hh=>by
  rcases hh with hh | hh
  . have:=A.lt _ hh;omega
  . have:=wr2.ge _ hh;rw[Go.Deep.nblk_alloc,Go.Deep.nblk_alloc] at this;omega
 have ok:=fun FS B0=>vS w2 FS B0 L bS B.b
 have GW:Below w.heap.size w w2:=grow g1 (grow vP g2)
 have nO:∀ x,L.has x\/B.has x->w.heap.size<=x:=fun x hx=>by
  rcases hx with hx | hx
  . exact hL x hx
  . have:=wr2.ge _ hx;have:=(grow g1 vP).size;omega
 clear hbg qB A S hσ hL g1 A2 S2 wr2 g2 vP
 generalize ((w1.alloc (.cells #[.int .i64 1,.int .i64 30,.int .i64 16,.int .i64 40,.int .i64 100,.int .i64 600,.int .i64 3,.pointer (some ⟨L.p,0,none⟩),.int .i64 0] 27)).alloc (.cells #[.int .i64 1,.int .i64 2,.int .i64 0,.int .i64 0,.int .u64 0,.int .i64 0,.int .i64 0,.int .i64 0,.int .i64 0,.int .i64 7,.int .i64 0,.int .i64 0,.int .i64 0,.int .u64 0,.int .i64 0,.int .i64 0,.int .i64 0,.int .i64 7] 45)).heap.size=B0 at *
 go_loopw [6] (fun iv wr=>∃ i:Nat,iv=.int .i64 i/\Ep w2 (fun x=>L.has x\/B.has x) B0 L bS B.b yt sG (fun _ _=>0) 93 2000 i wr) (fun iv _=>600 - (intOf iv).toNat)
 case atStart=>exact⟨0,rfl,R2⟩
 case round =>
  clear R2
  obtain⟨i,rfl,R⟩:=hrel
  have hi:i<=186:=R.le
  have hi5:(i:Int)<500:=by omega
  have on:=R.on
  have vr:=v2.only on nE
  rcases R.step (ok _ _) (by omega) with⟨hE,he⟩ | ⟨he,hst⟩
  . have he:=he _ (Below.refl _ _)
    have GR:Below w.heap.size w wr:=GW.trans (on.below GW.size (fun k hk hs=>by have:=nO k hs;omega))
    obtain⟨B5,ts,os,ks,σ5,eb,⟨t0,t1,rfl,hE0,hV1⟩,P⟩:=hE
    obtain⟨d5,uU⟩:=P.wr
    have htold:=fun w3 (g3:Below wr.heap.size wr w3)=>GN (uU.grown g3)
    have Au:=fun w3 (g3:Below wr.heap.size wr w3)=>GM (uU.grown g3) 0
    have hidle:=fun w3 (g3:Below wr.heap.size wr w3)=>Nc (uU.grown g3)
    simp only[eb] at htold Au hidle
    clear P uU on R v2 vr GW ok
    go_wp2_with (first
     | (go_at_call 12;refine he.mono ?_;rintro e w3 ⟨rfl,g3⟩)
     | (go_at_call 17;refine(htold _ g3).mono ?_;rintro e w5 ⟨v5,rfl,s5,g5,f5⟩))
    have sD:=grow g3 g5
    rcases s5 with⟨_,h5⟩ | ⟨gb,gc,e5,r5⟩
    . cases h5
    have e5:v5=.slice (some ⟨gb,0,none⟩) 2 gc:=e5
    subst e5
    have c12:w5.cell? ⟨gb,12,none⟩=some (.int .i64 0):=(r5.cell0 (i:=12) rfl).trans (by rw[hE0])
    have c13:w5.cell? ⟨gb,13,none⟩=some (.int .u64 t0.H):=r5.cell0 (i:=13) rfl
    have c32:w5.cell? ⟨gb,32,none⟩=some (.int .i64 1):=(r5.cell0 (i:=32) rfl).trans (by rw[hV1])
    clear r5 f5 htold
    refine ZK Grown 33 [.val (.slice (some ⟨gb,0,none⟩) 2 gc),.val (.int .i64 2),.val (.bool true),.val (.bool true),.val (.slice (some ⟨gb,0,none⟩) 2 gc),.val (.pointer (some ⟨gb,0,none⟩)),.val (.pointer (some ⟨gb,12,none⟩)),.val (.pointer (some ⟨gb,12,none⟩)),.val (.int .i64 0),.val (.bool true),.val (.bool true),.val (.bool true),.val (.pointer (some ⟨B.b,0,none⟩)),.val (.int .u64 t0.H),.val (.slice (some ⟨gb,0,none⟩) 2 gc),.val (.pointer (some ⟨gb,0,none⟩)),.val (.pointer (some ⟨gb,12,none⟩)),.val (.pointer (some ⟨gb,13,none⟩)),.val (.int .u64 t0.H),.val (.bool true),.val (.bool true),.val (.bool true),.val (.slice (some ⟨gb,0,none⟩) 2 gc),.val (.pointer (some ⟨gb,18,none⟩)),.val (.pointer (some ⟨gb,30,none⟩)),.val (.pointer (some ⟨gb,32,none⟩)),.val (.int .i64 1),.val (.bool true),.val (.bool true),.val (.bool true),.val (.pointer (some ⟨B.b,0,none⟩)),.val (.bool true),.val (.bool true)] (by kernel_rfl) Grown.refl Grown.trans (by decide) (by kernel_rfl) (by kernel_rfl) (by kernel_rfl) (by kernel_rfl) (by kernel_rfl) (by kernel_rfl) ?_
    simp only[List.take_succ_cons,List.take_zero,ZH,Act.put,List.setIfInBounds_toArray,List.set_cons_zero,List.set_cons_succ]
    refine⟨?_,⟨?_,⟨?_,⟨?_,⟨?_,⟨?_,⟨?_,⟨?_,⟨?_,⟨?_,⟨?_,⟨?_,⟨?_,⟨?_,⟨?_,⟨?_,⟨?_,⟨?_,⟨?_,⟨?_,⟨?_,⟨?_,⟨?_,⟨?_,⟨?_,⟨?_,⟨?_,⟨?_,⟨?_,⟨?_,⟨?_,⟨?_,⟨?_,?_⟩⟩⟩⟩⟩⟩⟩⟩⟩⟩⟩⟩⟩⟩⟩⟩⟩⟩⟩⟩⟩⟩⟩⟩⟩⟩⟩⟩⟩⟩⟩⟩⟩
    . intro w' hg HF
      apply ol
      clear HF
      go_simp
      exact gl
    . intro w' hg HF
      apply ol
      clear HF
      go_simp
      exact gl
    . intro w' hg HF
      apply ol
      clear HF
      go_simp
      exact gl
    . intro w' hg HF
      apply ol
      clear HF
      go_simp
      exact gl
    . intro w' hg HF
      apply ol
      clear HF
      go_simp
      exact gl
    . intro w' hg HF
      apply ol
      clear HF
      go_simp
      exact gl
    . intro w' hg HF
      apply ol
      clear HF
      go_simp
      exact gl
    . intro w' hg HF
      apply ol
      clear HF
      go_simp
      exact gl
    . intro w' hg HF
      apply ol
      have k:=keep' (w:=w5.drew) hg c12
      clear HF
      go_simp
      exact gl
    . intro w' hg HF
      apply ol
      clear HF
      go_simp
      exact gl
    . intro w' hg HF
      apply ol
      clear HF
      go_simp
      exact gl
    . intro w' hg HF
      apply ol
      clear HF
      go_simp
      exact gl
    . intro w' hg HF
      apply ol
      clear HF
      go_simp
      exact gl
    . intro w' hg HF
      apply ol
      have hmd:=Au _ (grow sD (grow ((Below.refl _ _).drew) hg))
      clear HF
      go_simp
      refine hmd.mono ?_
      rintro e w'' ⟨rfl,rfl⟩
      exact⟨_,rfl,Grown.refl _,rfl⟩
    . intro w' hg HF
      apply ol
      clear HF
      go_simp
      exact gl
    . intro w' hg HF
      apply ol
      clear HF
      go_simp
      exact gl
    . intro w' hg HF
      apply ol
      clear HF
      go_simp
      exact gl
    . intro w' hg HF
      apply ol
      clear HF
      go_simp
      exact gl
    . intro w' hg HF
      apply ol
      have k:=keep' (w:=w5.drew) hg c13
      clear HF
      go_simp
      exact gl
    . intro w' hg HF
      apply ol
      clear HF
      go_simp
      exact gl
    . intro w' hg HF
      apply ol
      clear HF
      go_simp
      exact gl
    . intro w' hg HF
      apply ol
      clear HF
      go_simp
      exact gl
    . intro w' hg HF
      apply ol
      clear HF
      go_simp
      exact gl
    . intro w' hg HF
      apply ol
      clear HF
      go_simp
      exact gl
    . intro w' hg HF
      apply ol
      clear HF
      go_simp
      exact gl
    . intro w' hg HF
      apply ol
      clear HF
      go_simp
      exact gl
    . intro w' hg HF
      apply ol
      have k:=keep' (w:=w5.drew) hg c32
      clear HF
      go_simp
      exact gl
    . intro w' hg HF
      apply ol
      clear HF
      go_simp
      exact gl
    . intro w' hg HF
      apply ol
      clear HF
      go_simp
      exact gl
    . intro w' hg HF
      apply ol
      clear HF
      go_simp
      exact gl
    . intro w' hg HF
      apply ol
      clear HF
      go_simp
      exact gl
    . intro w' hg HF
      apply ol
      have hid:=hidle _ (grow sD (grow ((Below.refl _ _).drew) hg))
      clear HF
      go_simp
      refine hid.mono ?_
      rintro e w'' ⟨rfl,rfl⟩
      exact⟨_,rfl,Grown.refl _,rfl⟩
    . intro w' hg HF
      apply ol
      clear HF
      go_simp
      exact gl
    intro w6 hg _
    go_wp2
    go_ret
    exact⟨rfl,grow GR (grow sD (grow ((Below.refl _ _).drew) hg))⟩
  . have he:=he _ (Below.refl _ _)
    have HI:Hid (i<=186):=hi
    clear hi R on
    go_wp2_with (first
     | (go_at_call 12;refine he.mono ?_;rintro e w3 ⟨rfl,g3⟩;have v3:=vr.grown g3;obtain⟨y0,y1,y2,y3,y4,y5,y6,y7,y8⟩:=id v3)
     | (go_at_call 13;refine(hst _ g3).mono ?_;rintro e w4 ⟨rfl,R4⟩))
    go_roundw
    case rel=>exact⟨i+1,by go_num,R4⟩
    case measure=>have:=HI.out;simp[intOf];omega
end
end Go.Proofs.YtgehjolndmgffaaGreat
