import Derived.Test.YtgehjolndmgffaaGreatWrkLeaf
import Derived.Test.YtgehjolndmgffaaGreatWrkAwake
import Derived.Test.YtgehjolndmgffaaGreatPlaceSee
namespace Go.Proofs.YtgehjolndmgffaaGreat
open Go.RowKit
section
def yL (x:Int):Prop:=0<=x/\x<=18446744073709551615
def QX (c:Wc):Prop:=Fit c.kd/\Fit c.sz/\Fit c.rt/\Fit c.ra/\yL c.rr/\Fit c.ix/\Fit c.vl/\Fit c.ol/\Fit c.ky
def Vx (W:World) (ao:Option Addr) (n:Nat) (A:Nat->Wc):Prop :=
 ∀ i,i<n->∃ b o,ao=some ⟨b,o,none⟩/\W.cell? ⟨b,o+i * 9,none⟩=some (iV (A i).kd)/\W.cell? ⟨b,o+i * 9+1,none⟩=some (iV (A i).sz)/\W.cell? ⟨b,o+i * 9+2,none⟩=some (iV (A i).rt)/\W.cell? ⟨b,o+i * 9+3,none⟩=some (iV (A i).ra)/\W.cell? ⟨b,o+i * 9+4,none⟩=some (.int .u64 (A i).rr)/\W.cell? ⟨b,o+i * 9+5,none⟩=some (iV (A i).ix)/\W.cell? ⟨b,o+i * 9+6,none⟩=some (iV (A i).vl)/\W.cell? ⟨b,o+i * 9+7,none⟩=some (iV (A i).ol)/\W.cell? ⟨b,o+i * 9+8,none⟩=some (iV (A i).ky)
theorem Vx.grown {W W':World} {ao:Option Addr} {n:Nat} {A:Nat->Wc} (h:Vx W ao n A) (g:Below W.heap.size W W'):Vx W' ao n A:=fun i hi=>by
 obtain⟨b,o,e,h0,h1,h2,h3,h4,h5,h6,h7,h8⟩:=h i hi
 exact⟨b,o,e,keep' g h0,keep' g h1,keep' g h2,keep' g h3,keep' g h4,keep' g h5,keep' g h6,keep' g h7,keep' g h8⟩
end
section
theorem vH (z:Int):∃ M:Int,(z.tmod 8+8).tmod 8=M/\0<=M/\M<=7/\-8<z.tmod 8/\z.tmod 8<8:=by
 have h1:-(8:Int)<z.tmod 8:=Int.lt_tmod_of_pos z (by omega)
 have h3:z.tmod 8<8:=Int.tmod_lt_of_pos z (by omega)
 have e:=Int.tmod_eq_emod_of_nonneg (a:=z.tmod 8+8) (b:=8) (by omega)
 exact⟨_,rfl,by omega,by omega,h1,h3⟩
theorem Jq (z:Int):∃ y:Int,bits .and .i64 z 1099511627775=y/\0<=y/\y<=1099511627775:=by
 obtain⟨y,h1,h2⟩:=wX z 1099511627775 40 (by decide) (by decide)
 exact⟨y,h1,by omega,h2⟩
theorem vG (z:Int):∃ y:Int,bits .and .i64 z 15=y/\0<=y/\y<=15:=by
 obtain⟨y,h1,h2⟩:=wX z 15 4 (by decide) (by decide)
 exact⟨y,h1,by omega,h2⟩
theorem Ai {M sz rt ra rr ix y1 y2 y3:Int} (m0:0<=M) (m7:M<=7) (v0:0<=y1) (v1:y1<=1099511627775) (o0:0<=y2) (o1:y2<=1099511627775) (k0:0<=y3) (k1:y3<=15):Wc.may ⟨1+M,sz,rt,ra,rr,ix,y1,y2,y3⟩=true:=by
 unfold Wc.may Wc.asks
 by_cases h6:6<=1+M
 . have e:(decide (6<=1+M) && decide (1+M<=8))=true:=by rw[decide_eq_true h6,decide_eq_true (by omega)];rfl
   simp only[e,if_true]
   unfold VZ
   rw[decide_eq_true (by omega),decide_eq_true (by omega),decide_eq_true k0,decide_eq_true (by omega)];rfl
 . have e:(decide (6<=1+M) && decide (1+M<=8))=false:=by rw[decide_eq_false h6];rfl
   simp only[e]
   exact Wu (by show 1<=1+M;omega) (by show 1+M<=5;omega) v0 v1 o0 o1
def Em (c:Wc):Prop:=c.may=true/\Fit c.sz/\yL c.rr
set_option maxRecDepth 20000 in
set_option maxHeartbeats 4000000 in
theorem GK {w:World} {ao:Option Addr} {n cap:Nat} {A:Nat->Wc} (h:Vx w ao n A) (hf:∀ i,i<n->QX (A i)) (hn:n<=9223372036854775807):Calls Tryz.prog 9 #[.slice ao n cap,.int .i64 1] w fun e w'=>∃ (v:Value) (cs:List Wc),e=.returned v/\Sl w' 45 9 v (cs.map Wc.l)/\cs.length<=30/\(∀ c∈cs,Em c)/\Below w.heap.size w w':=by
 have HN:Hid (n<=9223372036854775807):=hn
 clear hn
 go_enter Tryz.func9,Tryz.ntmps9
 go_wp2
 go_loopw [4,5] (fun ov iv wr=>∃ (i:Nat) (cs:List Wc),iv=.int .i64 i/\cs.length=i/\i<=30/\i<=n/\Sl wr 45 9 ov (cs.map Wc.l)/\(∀ k,ov.ownBlock=some k->w.heap.size<=k)/\(∀ c∈cs,Em c)/\Below w.heap.size w wr) (fun _ iv _=>60 - (intOf iv).toNat)
 case atStart=>exact⟨0,[],rfl,rfl,by decide,Nat.zero_le _,Or.inl ⟨rfl,rfl⟩,fun k hk=>(by cases hk),fun c hc=>(by cases hc),Below.refl _ _⟩
 case round =>
  obtain⟨i,cs,rfl,hl,hi,hin,hs,ho,hok,g⟩:=hrel
  have HI:Hid (cs.length=i/\i<=30/\i<=n):=⟨hl,hi,hin⟩
  have HO:Hid ((∀ k,u4.ownBlock=some k->w.heap.size<=k)/\(∀ c∈cs,Em c)/\Sl wr 45 9 u4 (cs.map Wc.l)):=⟨ho,hok,hs⟩
  clear ho hok hs hl
  by_cases hlt:i<n/\i<30
  . obtain⟨h1,h2⟩:=hlt
    have h1i:(i:Int)<(n:Int):=by omega
    have mi:(i:Int)<30:=by omega
    have hib:(0:Int)<=(i:Int)/\(i:Int)<(n:Int):=by omega
    obtain⟨b,o,rfl,c0,c1,c2,c3,c4,c5,c6,c7,c8⟩:=h i h1
    have hfi:=hf i h1
    replace c0:=keep' g c0
    replace c1:=keep' g c1
    replace c2:=keep' g c2
    replace c3:=keep' g c3
    replace c4:=keep' g c4
    replace c5:=keep' g c5
    replace c6:=keep' g c6
    replace c7:=keep' g c7
    replace c8:=keep' g c8
    generalize A i=c at *
    obtain⟨kd,sz,rt,ra,rr,ix,vl,ol,ky⟩:=c
    obtain⟨M,e8,m0,m7,b1,b2⟩:=vH kd
    obtain⟨y1,mg,v0,v1⟩:=Jq vl
    obtain⟨y2,mf,o0,o1⟩:=Jq ol
    obtain⟨y3,l9,k0,k1⟩:=vG ky
    have lZ:rt.tmod 1=0:=by simp
    have HF:Hid (QX ⟨kd,sz,rt,ra,rr,ix,vl,ol,ky⟩):=hfi
    have HM:Hid (0<=M/\M<=7/\0<=y1/\y1<=1099511627775/\0<=y2/\y2<=1099511627775/\0<=y3/\y3<=15):=⟨m0,m7,v0,v1,o0,o1,k0,k1⟩
    clear hfi h hf hi hin
    simp only at c0 c1 c2 c3 c4 c5 c6 c7 c8
    by_cases hrt:rt<0
    . have sD:¬ 0<=rt:=by omega
      have aC:=At.new (wr.alloc (.cells #[.int .i64 (1+M),.int .i64 sz,.int .i64 rt,.int .i64 ra,.int .u64 rr,.int .i64 ix,.int .i64 y1,.int .i64 y2,.int .i64 y3] 45)) 45 (Wc.l ⟨1+M,sz,rt,ra,rr,ix,y1,y2,y3⟩)
      rw[Go.Deep.nblk_alloc] at aC
      have gC:=grow (ZZ wr (.cells #[.int .i64 (1+M),.int .i64 sz,.int .i64 rt,.int .i64 ra,.int .u64 rr,.int .i64 ix,.int .i64 y1,.int .i64 y2,.int .i64 y3] 45)) (ZZ (wr.alloc (.cells #[.int .i64 (1+M),.int .i64 sz,.int .i64 rt,.int .i64 ra,.int .u64 rr,.int .i64 ix,.int .i64 y1,.int .i64 y2,.int .i64 y3] 45)) (.cells #[.int .i64 (1+M),.int .i64 sz,.int .i64 rt,.int .i64 ra,.int .u64 rr,.int .i64 ix,.int .i64 y1,.int .i64 y2,.int .i64 y3] 45))
      obtain⟨v',w',hrun,hS,oS,nS⟩:=Sl.push (S:=22) Tryz.underlying22 Eg rfl (by decide) (by decide) (HO.out.2.2.grown gC) (wr.heap.size+1) (Wc.l ⟨1+M,sz,rt,ra,rr,ix,y1,y2,y3⟩) rfl (fun u hu=>by simp only[Wc.l,List.mem_cons,List.not_mem_nil,or_false] at hu;rcases hu with rfl | rfl | rfl | rfl | rfl | rfl | rfl | rfl | rfl <;> rfl) (fun j u hu=>aC.at0 j hu) (by have:=HI.out;simp;omega) 22
      have HG:Hid (Below w.heap.size w wr):=g
      clear g aC
      go_wp2_with (at_builtin;refine Xe rfl (.tmp 51) (.tmp 53) rfl rfl rfl hrun ?_)
      go_roundw
      case rel =>
       have hsz:=HG.out.size
       have yH:=gC.size
       refine⟨i+1,cs ++ [⟨1+M,sz,rt,ra,rr,ix,y1,y2,y3⟩],by go_num,by have:=HI.out;simp;omega,by omega,by omega,by rw[List.map_append];exact hS,fun k hk=>?_,fun c hc=>?_,(grow HG.out gC).trans (oS.below (Nat.le_trans hsz yH) (fun k hk hs=>absurd (HO.out.1 k hs) (by omega)))⟩
       . rcases nS k hk with h | h
         . exact HO.out.1 k h
         . omega
       . rcases List.mem_append.1 hc with hc | hc
         . exact HO.out.2.1 c hc
         . rw[List.mem_singleton.1 hc]
           obtain⟨m0,m7,v0,v1,o0,o1,k0,k1⟩:=HM.out
           obtain⟨f0,f1,f2,f3,f4,f5⟩:=HF.out
           exact⟨Ai m0 m7 v0 v1 o0 o1 k0 k1,f1,f4⟩
      case measure=>have:=HI.out;simp[intOf];omega
    . have sD:0<=rt:=by omega
      have aC:=At.new (wr.alloc (.cells #[.int .i64 (1+M),.int .i64 sz,.int .i64 0,.int .i64 ra,.int .u64 rr,.int .i64 ix,.int .i64 y1,.int .i64 y2,.int .i64 y3] 45)) 45 (Wc.l ⟨1+M,sz,0,ra,rr,ix,y1,y2,y3⟩)
      rw[Go.Deep.nblk_alloc] at aC
      have gC:=grow (ZZ wr (.cells #[.int .i64 (1+M),.int .i64 sz,.int .i64 0,.int .i64 ra,.int .u64 rr,.int .i64 ix,.int .i64 y1,.int .i64 y2,.int .i64 y3] 45)) (ZZ (wr.alloc (.cells #[.int .i64 (1+M),.int .i64 sz,.int .i64 0,.int .i64 ra,.int .u64 rr,.int .i64 ix,.int .i64 y1,.int .i64 y2,.int .i64 y3] 45)) (.cells #[.int .i64 (1+M),.int .i64 sz,.int .i64 0,.int .i64 ra,.int .u64 rr,.int .i64 ix,.int .i64 y1,.int .i64 y2,.int .i64 y3] 45))
      obtain⟨v',w',hrun,hS,oS,nS⟩:=Sl.push (S:=22) Tryz.underlying22 Eg rfl (by decide) (by decide) (HO.out.2.2.grown gC) (wr.heap.size+1) (Wc.l ⟨1+M,sz,0,ra,rr,ix,y1,y2,y3⟩) rfl (fun u hu=>by simp only[Wc.l,List.mem_cons,List.not_mem_nil,or_false] at hu;rcases hu with rfl | rfl | rfl | rfl | rfl | rfl | rfl | rfl | rfl <;> rfl) (fun j u hu=>aC.at0 j hu) (by have:=HI.out;simp;omega) 22
      have HG:Hid (Below w.heap.size w wr):=g
      clear g aC
      go_wp2_with (at_builtin;refine Xe rfl (.tmp 51) (.tmp 53) rfl rfl rfl hrun ?_)
      go_roundw
      case rel =>
       have hsz:=HG.out.size
       have yH:=gC.size
       refine⟨i+1,cs ++ [⟨1+M,sz,0,ra,rr,ix,y1,y2,y3⟩],by go_num,by have:=HI.out;simp;omega,by omega,by omega,by rw[List.map_append];exact hS,fun k hk=>?_,fun c hc=>?_,(grow HG.out gC).trans (oS.below (Nat.le_trans hsz yH) (fun k hk hs=>absurd (HO.out.1 k hs) (by omega)))⟩
       . rcases nS k hk with h | h
         . exact HO.out.1 k h
         . omega
       . rcases List.mem_append.1 hc with hc | hc
         . exact HO.out.2.1 c hc
         . rw[List.mem_singleton.1 hc]
           obtain⟨m0,m7,v0,v1,o0,o1,k0,k1⟩:=HM.out
           obtain⟨f0,f1,f2,f3,f4,f5⟩:=HF.out
           exact⟨Ai m0 m7 v0 v1 o0 o1 k0 k1,f1,f4⟩
      case measure=>have:=HI.out;simp[intOf];omega
  . by_cases h1:i<n
    . have h30:i=30:=by omega
      subst h30
      have h1i:(30:Int)<(n:Int):=by omega
      go_wp2
      go_ret
      first
       | exact⟨u4,cs,rfl,HO.out.2.2,by have:=HI.out;omega,HO.out.2.1,g⟩
       | exact⟨u4,rfl,cs,HO.out.2.2,by have:=HI.out;omega,HO.out.2.1,g⟩
    . have h1i:¬ (i:Int)<(n:Int):=by omega
      go_wp2
      go_ret
      first
       | exact⟨u4,cs,rfl,HO.out.2.2,by have:=HI.out;omega,HO.out.2.1,g⟩
       | exact⟨u4,rfl,cs,HO.out.2.2,by have:=HI.out;omega,HO.out.2.1,g⟩
end
section
set_option maxRecDepth 20000
def sN (j:Nat) (_:List Td) (_:Os) (ks:List Int):Prop:=ks.length<=j
def Am (cs:List Wc) (j:Nat) (_:List Td):Int:=match cs[j]? with
 | some c=>if c.rt<0 then c.rr else 0
 | none=>0
theorem Bv {cs:List Wc} (h:∀ c∈cs,Em c):cs.any (Wc.bad 3)=false:=by
 refine Bool.eq_false_iff.2 fun hm=>?_
 obtain⟨c,hc,hb⟩:=List.any_eq_true.1 hm
 unfold Wc.bad at hb
 rw[(h c hc).1,decide_eq_false (by decide:¬ (3=0))] at hb
 simp at hb
theorem vO {cs:List Wc} (hl:cs.length<=30) (hcs:∀ c∈cs,Em c) (Wn:World) (FS:Nat->Prop) (B0:Nat) (L:Loc) (bS b:Nat):Bq Wn FS B0 L bS b cs sN (Am cs) 573 (.func (.func 14) #[] #[]):=by
 refine⟨by omega,fun j ts os ks c E H V St σ0 σ' os' ks' hQ hlt hc hR=>?_,fun j ts os ks hQ hj=>?_,fun c hc=>⟨(hcs c hc).1,(hcs c hc).2.1⟩,fun j ts os ks _ _ hj=>?_,fun B j ts os ks c w w1 _ _ _ hc _ _ _=>?_⟩
 . have:=(Nc hR.1).2
   have hQ:ks.length<=j:=hQ
   show ks'.length<=j+1
   omega
 . have hQ:ks.length<=j:=hQ
   omega
 . unfold Am
   obtain⟨c,hc⟩:∃ c,cs[j]?=some c:=⟨_,List.getElem?_eq_getElem hj⟩
   rw[hc]
   have hf:=(hcs c (List.mem_of_getElem? hc)).2.2
   show Wd (if c.rt<0 then c.rr else 0)
   split
   . exact⟨hf.1,hf.2⟩
   . exact⟨Int.le_refl _,by show (0:Int)<=18446744073709551615;decide⟩
 . have e:Am cs j ts=if c.rt<0 then c.rr else 0:=by unfold Am;rw[hc]
   rw[e]
   by_cases hrt:c.rt<0
   . rw[if_pos hrt];exact GL c hrt _ w1
   . rw[if_neg hrt];exact Vq c hrt 0 w1 (fun w2 _=>QS _ _ _ _ rfl w2)
set_option maxRecDepth 20000 in
set_option maxHeartbeats 8000000 in
theorem SY {w:World} {ao:Option Addr} {n cap:Nat} {A:Nat->Wc} (h:Vx w ao n A) (hf:∀ i,i<n->QX (A i)) (hn:n<=9223372036854775807):Calls Tryz.prog 3 #[.slice ao n cap] w fun e w'=>e=.returned (.bool true)/\Below w.heap.size w w':=by
 have hbg:=Qa w
 have hcut:=fun w1 (g:Below w.heap.size w w1)=>GK (cap:=cap) (h.grown g) hf hn
 clear h hf hn
 go_enter Tryz.func3,Tryz.ntmps3
 go_wp2_with (first
  | (go_at_call 7;refine hbg.mono ?_;rintro e w1 ⟨L,bS,rfl,⟨Bs,σ,A,S,hσ,hL⟩,g1⟩)
  | (go_at_call 9;refine(hcut _ (grow g1 (ZZ w1 (.cells #[.int .i64 1,.int .i64 30,.int .i64 16,.int .i64 40,.int .i64 100,.int .i64 600,.int .i64 3,.pointer (some ⟨L.p,0,none⟩),.int .i64 0] 27)))).mono ?_;rintro e w2 ⟨cv,cs,rfl,s2,hlen,hcs,g2⟩)
  | (go_at_call 8;refine(P9 (cs:=cs) (n:=3) 0 (by decide) s2 (by omega) (Or.inr ⟨bS,rfl,S.sh.grown (grow (ZZ w1 (.cells #[.int .i64 1,.int .i64 30,.int .i64 16,.int .i64 40,.int .i64 100,.int .i64 600,.int .i64 3,.pointer (some ⟨L.p,0,none⟩),.int .i64 0] 27)) g2)⟩) (Bv hcs)).mono ?_;rintro e w3 ⟨B,rfl,wr3,g3⟩)
  | (go_at_call 10;refine(Nb _).mono ?_;rintro e w4 ⟨rfl,g4⟩))
 have Ej:=grow (ZZ w1 (.cells #[.int .i64 1,.int .i64 30,.int .i64 16,.int .i64 40,.int .i64 100,.int .i64 600,.int .i64 3,.pointer (some ⟨L.p,0,none⟩),.int .i64 0] 27)) g2
 have A2:=A.grown Ej
 have S2:=S.grown Ej
 have wr4:=wr3.grown g4
 have R2:=Gj.start (Q:=sN) (HS:=Am cs) (m:=573) (σb:=2000) A2 S2 wr4 (grow g3 g4) (Nat.le_refl _) hσ
 have v2:=((((ZP.new (w:=w1) (P:=L.p) (c0:=1) (c1:=30) (c2:=16) (c3:=40) (c4:=100) (c5:=600) (c6:=3) (who:=0) (T:=27))).grown g2).grown g3).grown g4
 have nE:¬ (L.has w1.heap.size\/B.has w1.heap.size):=fun hh=>by
  rcases hh with hh | hh
  . have:=A.lt _ hh;omega
  . have h1:=wr3.ge _ hh;have h2:=g2.size;rw[Go.Deep.nblk_alloc] at h2;omega
 have ok:=vO hlen hcs w4 (fun x=>L.has x\/B.has x) w2.heap.size L bS B.b
 have GW:Below w.heap.size w w4:=grow g1 (grow Ej (grow g3 g4))
 have sK:∀ x,L.has x\/B.has x->w.heap.size<=x:=fun x hx=>by
  rcases hx with hx | hx
  . exact hL x hx
  . have:=wr3.ge _ hx;have:=(grow g1 Ej).size;omega
 clear hbg hcut A S hσ hL g1 A2 S2 wr3 g2 Ej wr4 g3 g4 hcs s2
 generalize w2.heap.size=B0 at *
 go_loopw [8] (fun iv wr=>∃ (i σ:Nat),iv=.int .i64 i/\i<=4000/\σ<=2000+i/\Jr w4 (fun x=>L.has x\/B.has x) B0 L bS B.b cs sN (Am cs) 573 i σ wr) (fun iv _=>5000 - (intOf iv).toNat)
 case atStart =>
  obtain⟨σ',h1,h2⟩:=R2
  exact⟨0,σ',rfl,by decide,h1,h2⟩
 case round =>
  clear R2
  obtain⟨i,σ,rfl,hi,hs,R⟩:=hrel
  have on:=R.on
  have vr:=v2.only on nE
  have GR:Below w.heap.size w wr:=GW.trans (on.below GW.size (fun k hk hs=>by have:=sK k hs;omega))
  by_cases h4:i=4000
  . subst h4
    go_wp2
    go_ret
    exact⟨rfl,GR⟩
  . have hi5:(i:Int)<4000:=by omega
    have nP:(σ:Int)<=6000:=by omega
    have now:=R.now
    obtain⟨y0,y1,y2,y3,y4,y5,y6,y7,y8⟩:=id vr
    have G:=Below.refl wr.heap.size wr
    have HI:Hid (i<=4000/\σ<=2000+i/\i≠4000):=⟨hi,hs,h4⟩
    clear hi hs h4
    rcases R.step ok (by have:=HI.out;omega) with⟨hE,he⟩ | ⟨he,hst⟩
    . obtain⟨B5,ts,os,ks,σ5,eb,mF,P⟩:=hE
      obtain⟨d5,yJ⟩:=P.wr
      have hov:=fun w3 (g3:Below wr.heap.size wr w3)=>(P.grown g3).over (.func (.func 14) #[] #[])
      have hidle:=fun w3 (g3:Below wr.heap.size wr w3)=>Un (yJ.grown g3)
      simp only[eb] at hov hidle
      clear P yJ on R v2 ok GW
      have hlt:¬ ((σ:Int)+1<(σ:Int)):=by omega
      go_wp2_with (first
       | (go_at_call 11;refine(now _ G).mono ?_;rintro e wn ⟨rfl,gn⟩;have G:=grow G gn;have vv:=vr.grown G;obtain⟨y0,y1,y2,y3,y4,y5,y6,y7,y8⟩:=vv)
       | (go_at_call 12;refine(he _ G).mono ?_;rintro e wn ⟨rfl,gn⟩;have G:=grow G gn;have vv:=vr.grown G;obtain⟨y0,y1,y2,y3,y4,y5,y6,y7,y8⟩:=vv)
       | (go_at_call 13;refine(hov _ G).mono ?_;rintro e wn ⟨rfl,gn⟩;have G:=grow G gn;have vv:=vr.grown G;obtain⟨y0,y1,y2,y3,y4,y5,y6,y7,y8⟩:=vv)
       | (go_at_call 15;refine(hidle _ G).mono ?_;rintro e wn ⟨rfl,rfl⟩))
      go_ret
      exact⟨rfl,grow GR G⟩
    . clear on R GR ok GW
      go_wp2_with (first
       | (go_at_call 12;refine(he _ G).mono ?_;rintro e wn ⟨rfl,gn⟩;have G:=grow G gn;have vv:=vr.grown G;obtain⟨y0,y1,y2,y3,y4,y5,y6,y7,y8⟩:=vv)
       | (go_at_call 13;refine(hst _ G).mono ?_;rintro e w5 ⟨rfl,σ5,hs5,R5⟩;have vr:=v2.only R5.on nE;have G:=Below.refl w5.heap.size w5;have now:=R5.now;have hlt:¬ ((σ:Int)+1<(σ5:Int)):=(by omega);have vv:=vr;obtain⟨y0,y1,y2,y3,y4,y5,y6,y7,y8⟩:=vv)
       | (go_at_call 11;refine(now _ G).mono ?_;rintro e wn ⟨rfl,gn⟩;have G:=grow G gn;have vv:=vr.grown G;obtain⟨y0,y1,y2,y3,y4,y5,y6,y7,y8⟩:=vv))
      go_roundw
      case rel=>exact⟨i+1,σ5,by go_num,by have:=HI.out;omega,by have:=HI.out;omega,R5.grown G⟩
      case measure=>have:=HI.out;simp[intOf];omega
end
end Go.Proofs.YtgehjolndmgffaaGreat
