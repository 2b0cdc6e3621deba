import Derived.Test.YtpbghmeikcphnaaGreatLstChain
import Derived.Test.YtpbghmeikcphnaaGreatLstNode
import Derived.Test.YtpbghmeikcphnaaGreatLstAwake
import Derived.Test.YtpbghmeikcphnaaGreatLstCount
import Derived.OwnWalk
namespace Go.Proofs.YtpbghmeikcphnaaGreat
open Go.RowKit
section
structure Om (ky lk:Nat->Int) (hd:Nat) (A B:List Nat) (kk:Nat):Prop where
 so:(hd :: (A ++ B)).Pairwise (fun a b=>ky a<ky b)
 h1:ky hd=-1
 top:kk=0\/∃ c,c∈A/\lk c<4294967296/\ky c+1=kk
 lo:∀ c,c∈A->lk c<4294967296->ky c<kk
section
variable {ky lk:Nat->Int} {hd:Nat} {A B:List Nat} {kk:Nat}
theorem Om.first {C:List Nat} (so:(hd :: C).Pairwise (fun a b=>ky a<ky b)) (h1:ky hd=-1):Om ky lk hd [] C 0:=⟨so,h1,Or.inl rfl,fun c hc=>by cases hc⟩
theorem Om.skip {c:Nat} (S:Om ky lk hd A (c :: B) kk) (hg:4294967296<=lk c):Om ky lk hd (A ++ [c]) B kk:=by
 refine⟨by have:=S.so;simpa using this,S.h1,S.top.imp id ?_,fun d hd' hl=>?_⟩
 . rintro⟨d,h1,h2,h3⟩
   exact⟨d,List.mem_append.2 (Or.inl h1),h2,h3⟩
 . rcases List.mem_append.1 hd' with h | h
   . exact S.lo d h hl
   . rw[List.mem_singleton.1 h] at hl;omega
theorem Om.rest (S:Om ky lk hd A B kk) {y:Int} (hy:(kk:Int)<=y) (h:Q9 ky lk (hd :: (A ++ B)) y):∃ c,c∈B/\ky c=y/\lk c<4294967296:=by
 obtain⟨c,h1,h2,h3⟩:=h
 rcases List.mem_cons.1 h1 with e | h1
 . rw[e,S.h1] at h2;omega
 . rcases List.mem_append.1 h1 with h1 | h1
   . have:=S.lo c h1 h3;omega
   . exact⟨c,h1,h2,h3⟩
theorem Om.next {c:Nat} (S:Om ky lk hd A (c :: B) kk) (hl:lk c<4294967296):(kk:Int)<=ky c/\Q9 ky lk (hd :: (A ++ c :: B)) (ky c)/\(∀ y:Int,(kk:Int)<=y->y<ky c->¬ Q9 ky lk (hd :: (A ++ c :: B)) y)/\∀ x:Nat,(x:Int)=ky c->Om ky lk hd (A ++ [c]) B (x+1):=by
 have so:=S.so
 obtain⟨s1,s2⟩:=List.pairwise_cons.1 so
 obtain⟨s3,s4,s5⟩:=List.pairwise_append.1 s2
 obtain⟨s6,s7⟩:=List.pairwise_cons.1 s4
 have hc0:=s1 c (by simp)
 have hk:(kk:Int)<=ky c:=by
  rcases S.top with e | ⟨d,h1,h2,h3⟩
  . have:=S.h1;omega
  . have:=s5 d h1 c (by simp);omega
 refine⟨hk,⟨c,by simp,rfl,hl⟩,fun y h1 h2 hS=>?_,fun x hx=>⟨by simpa using so,S.h1,Or.inr ⟨c,by simp,hl,by omega⟩,fun d hd' hl'=>?_⟩⟩
 . obtain⟨d,e1,e2,-⟩:=S.rest h1 hS
   rcases List.mem_cons.1 e1 with e | e
   . rw[e] at e2;omega
   . have:=s6 d e;omega
 . rcases List.mem_append.1 hd' with h | h
   . have:=s5 d h c (by simp);omega
   . rw[List.mem_singleton.1 h];omega
theorem Om.end_ (S:Om ky lk hd A [] kk) {y:Int} (hy:(kk:Int)<=y):¬ Q9 ky lk (hd :: A) y:=fun h=>by
 have:=S.rest (y:=y) hy (by simpa using h)
 obtain⟨c,h1,-⟩:=this
 cases h1
end
end
section
set_option maxRecDepth 20000
def hB (h:Gh):List Nat->Int
 | []=>0
 | c :: _=>h.H c
theorem Px {h:Gh} {A B:List Nat} {c:Nat} (L:Linked h.lk h.H (A ++ c :: B)):h.lk c % 4294967296=hB h B:=by
 have:=Linked.mid L
 cases B with
 | nil=>exact this
 | cons b B=>exact this.1
set_option maxRecDepth 20000 in
set_option maxHeartbeats 4000000 in
theorem Kz {n:Nat} {L:Loc} {w:World} {s:Mm} {h:Gh} {hd:Nat} {F:List Nat} {bI ln:Nat} {z:Nat->Bool} (hG:Good 4 n 12 40 100 600 3) (mm:Z9 w L s) (hl:6+4+n * 2<=s.n) (nr:∀ j,j∈F->IJ n s (h.H j) (h.nd j).x (h.nd j).a (h.cv j 0) (h.lk j)) (lst:Vp h.ZG (h.ky hd) h.lk h.H hd F) (hlen:F.length<=41) (bz:∀ i,i<ln->w.cell? ⟨bI,i,none⟩=some (.bool (z i))) (hln:ln<=16) (hz:∀ x:Int,0<=x->(Q9 (h.ky hd) h.lk F x↔∃ i,i<ln/\x=(i:Nat)/\z i=true)) (hh:h.ky hd hd=-1) (who:Int) :
 Calls Tryz.prog 12 #[eV 4 n 12 40 100 600 3 L.p who,.int .u64 (h.H hd),.slice (some ⟨bI,0,none⟩) ln ln] w fun e w'=>e=.returned (.bool true)/\Below w.heap.size w w':=by
 obtain⟨C,hC⟩:=lst.hf
 have jZ:Hid (∀ j,j∈F->IJ n s (h.H j) (h.nd j).x (h.nd j).a (h.cv j 0) (h.lk j)):=nr
 have HG:Hid (Good 4 n 12 40 100 600 3):=hG
 have HL:Hid (6+4+n * 2<=s.n):=hl
 have pq:Hid (Vp h.ZG (h.ky hd) h.lk h.H hd F):=lst
 have jY:Hid (F.length<=41):=hlen
 have nM:Hid (∀ i,i<ln->w.cell? ⟨bI,i,none⟩=some (.bool (z i))):=bz
 have nK:Hid (Om (h.ky hd) h.lk hd [] C 0):=Om.first (by rw[<- hC];exact lst.so) hh
 have HZ:Hid ((∀ c,c∈F->Q9 (h.ky hd) h.lk F (h.ky hd c)->(0:Int)<=h.ky hd c->∃ kc:Nat,h.ky hd c=kc/\z kc=true/\kc<ln)/\∀ i:Nat,¬ Q9 (h.ky hd) h.lk F i->z i=false\/ln<=i):=by
  refine⟨fun c _ hI h0=>?_,fun i hI=>?_⟩
  . obtain⟨i,h1,h2,h3⟩:=(hz _ h0).1 hI
    exact⟨i,h2,h3,h1⟩
  . by_cases hi:i<ln
    . refine Or.inl ?_
      cases hzi:z i with
      | false=>rfl
      | true=>exact absurd ((hz i (by omega)).2 ⟨i,hi,rfl,hzi⟩) hI
    . exact Or.inr (by omega)
 have n0:=fun w1 (g1:Below w.heap.size w w1)=>MJ hG (mm.below g1) (nr hd (by rw[hC];simp)) hl who
 have HB0:Hid (h.lk hd % 4294967296=hB h C):=Px (A:=[]) (by rw[List.nil_append,<- hC];exact lst.XB)
 rw[HB0.out] at n0
 have fl:∀ (a1 a2:Value) (w:World),(Instr.field 59 (.agg #[a1,a2]) 0).run Tryz.prog w=.ok a1 w:=fun a1 a2 w=>by kernel_rfl
 have v0:=(ZU.new (w:=w) (P:=L.p) (c0:=4) (c1:=n) (c2:=12) (c3:=40) (c4:=100) (c5:=600) (c6:=3) (who:=who) (T:=27))
 obtain⟨y0,y1,y2,y3,y4,y5,y6,y7,y8⟩:=id v0
 have HM:Hid (Z9 w L s):=mm
 clear nr hG hl lst hlen bz hz hh mm
 go_enter Tryz.func12,Tryz.ntmps12
 go_wp2_with (go_at_call 24;refine(n0 _ (ZY _ _)).mono ?_;rintro e w1 ⟨rfl,g1⟩)
 have A1:Hid (ZU w1 w.heap.size 4 n 12 40 100 600 3 L.p who/\Z9 w1 L s/\Below w.heap.size w w1):=⟨v0.grown g1,(HM.out.alloc _).below g1,grow (ZY _ _) g1⟩
 clear y0 y1 y2 y3 y4 y5 y6 y7 y8 v0 n0 g1
 go_loopw [7,8,9] (fun av kv nv wr=>∃ (A B:List Nat) (kk:Nat),av=.int .u64 (hB h B)/\kv=iV kk/\nv=iV A.length/\F=hd :: (A ++ B)/\Om (h.ky hd) h.lk hd A B kk/\ZU wr w.heap.size 4 n 12 40 100 600 3 L.p who/\Z9 wr L s/\Below w.heap.size w wr) (fun _ _ nv _=>100 - (intOf nv).toNat)
 case atStart=>exact⟨[],C,0,rfl,rfl,rfl,by rw[List.nil_append];exact hC,nK.out,A1.out⟩
 case round =>
  clear A1 nK HB0
  obtain⟨A,B,kk,rfl,rfl,rfl,hF,hS,v,m,b⟩:=hrel
  have HF:Hid (F=hd :: (A ++ B)):=hF
  have HS:Hid (Om (h.ky hd) h.lk hd A B kk):=hS
  have hA:((A.length:Nat):Int)<60:=by have:=jY.out;rw[hF,List.length_cons,List.length_append] at this;omega
  clear hF hS
  cases B with
  | nil =>
   rw[show hB h []=0 from rfl]
   have XH:Hid (∀ i:Nat,kk<=i->i<ln->z i=false):=fun i h1 h2=>(HZ.out.2 i (fun hI=>HS.out.end_ (y:=(i:Int)) (by omega) (by rw[HF.out,List.append_nil] at hI;exact hI))).resolve_right (by omega)
   clear HS HF
   go_wp2
   go_loopw [8] (fun kv wr=>∃ k':Nat,kv=iV k'/\kk<=k'/\Below w.heap.size w wr) (fun kv _=>100 - (intOf kv).toNat)
   case atStart=>exact⟨kk,rfl,Nat.le_refl _,b⟩
   case round =>
    clear v m b
    obtain⟨k',rfl,hk1,b6⟩:=hrel
    by_cases hlt:(k':Int)<(ln:Int)
    . have cI:wr.cell? ⟨bI,k',none⟩=some (.bool (z k')):=keep' b6 (nM.out k' (by omega))
      rw[XH.out k' hk1 (by omega)] at cI
      have jX:=hln
      go_wp2
      go_roundw
      case rel=>exact⟨k'+1,by go_num,by omega,b6⟩
      case measure=>simp[intOf];omega
    . go_wp2
      go_ret
      exact⟨rfl,b6⟩
  | cons c B' =>
   rw[show hB h (c :: B')=h.H c from rfl]
   have R:=jZ.out c (by rw[HF.out];simp)
   have hkc:h.ky hd c=h.cv c 0:=by
    unfold Gh.ky
    rw[if_neg (fun e=>?_)]
    have so:=HS.out.so
    have:=(List.pairwise_cons.1 so).1 c (by simp)
    rw[e] at this
    omega
   have nd:=fun w1 (m1:Z9 w1 L s)=>MJ HG.out m1 R HL.out who
   have wV:h.lk c % 4294967296=hB h B':=Px (A:=hd :: A) (by rw[List.cons_append,<- HF.out];exact pq.out.XB)
   rw[wV] at nd
   obtain⟨h0,h1,hx,xn,⟨sw,e0,s0',s1',ea⟩,ab,a9,⟨ek,k0,k1⟩,el,l0,l1⟩:=R
   have hz0:(h.H c == 0)=false:=by
    have:h.H c≠0:=by omega
    simpa using this
   have hh2:=fun w=>Uk (h.H c) w h0 h1
   have hx2:((h.nd c).x:Int)<=1000000:=by have:=HG.out.n1;omega
   have hsl:=fun w=>Zj 4 n 12 40 100 600 3 (h.nd c).x w HG.out.arena (by omega) hx2
   have hpk:=fun w (m:Z9 w L s)=>Rj m (6+4+(h.nd c).x * 2) (by have:=HL.out;omega) sw e0
   have hsw:=fun w=>TS sw w s0' s1'
   have hp2:=fun w (m:Z9 w L s)=>Rj m ((h.nd c).a+1) (by omega) (h.cv c 0) ek
   have hcl:=fun w=>QM (h.cv c 0) w k0 (by omega)
   rw[ea] at hsw
   rw[show h.cv c 0 % 1099511627776=h.cv c 0 by omega,decide_eq_false (by omega:¬ 9223372036854775808<=h.cv c 0),if_neg (by omega:¬ 9223372036854775808<=h.cv c 0)] at hcl
   rw[hx] at hh2
   have fc:∀ (a1 a2 a3:Value) (w:World),(Instr.field 79 (.agg #[a1,a2,a3]) 0).run Tryz.prog w=.ok a1 w:=fun a1 a2 a3 w=>by kernel_rfl
   have fs:∀ (a1 a2 a3 a4:Value) (w:World),(Instr.field 83 (.agg #[a1,a2,a3,a4]) 1).run Tryz.prog w=.ok a2 w:=fun a1 a2 a3 a4 w=>by kernel_rfl
   have sV:h.lk c=h.lk c:=rfl
   generalize hgk:h.lk c=lk at nd sV wV el l0 l1
   have nJ:Hid (h.lk c=lk):=hgk
   have nH:Hid (h.ky hd c=h.cv c 0):=hkc
   have sU:Hid (hB h B'=hB h B'):=rfl
   generalize h.cv c 0=ky at hp2 hcl nH
   generalize (h.nd c).x=x at hsl hpk hh2 hx2
   generalize (h.nd c).a=a at hsw hp2 a9
   generalize h.H c=Hc at nd hh2 hz0 ⊢
   generalize sS:hB h B'=nx at nd sU
   clear sU
   have sU:Hid (nx=hB h B'):=sS.symm
   generalize sw % 8=s0 at hsw
   generalize sw / 8388608 % 65536=s2 at hsw
   generalize sw / 549755813888 % 4194304=s3 at hsw
   generalize Hc / 65536=Hg at hh2
   clear h0 h1 hx xn e0 s0' s1' ea ab ek k0 k1 el l0 l1 hgk hkc sV wV sS
   obtain⟨y0,y1,y2,y3,y4,y5,y6,y7,y8⟩:=id v
   go_wp2_with (first
    | (go_at_call 24;refine(nd _ m).mono ?_;rintro e w2 ⟨rfl,g2⟩)
    | (go_at_call 25;refine(hh2 _).mono ?_;rintro e w3 ⟨rfl,g3⟩))
   refine ZW (fun W=>ZU W w.heap.size 4 n 12 40 100 600 3 L.p who/\At W w2.heap.size 0 59 #[.int .u64 nx,.bool (Yx lk)] [.int .u64 nx,.bool (Yx lk)]/\At W w3.heap.size 0 75 #[iV x,iV Hg] [iV x,iV Hg]/\Z9 W L s/\Below w.heap.size w W) ⟨(((v.grown g2).grown (ZY _ _)).grown g3).grown (ZY _ _),((At.new w2 59 [.int .u64 nx,.bool (Yx lk)]).grown g3).grown (ZY _ _),At.new w3 75 [iV x,iV Hg],(((m.below g2).alloc _).below g3).alloc _,Z4 (grow (Z4 (grow b g2) _) g3) _⟩ ?_
   clear v m b y0 y1 y2 y3 y4 y5 y6 y7 y8 g2 g3
   rintro W ⟨vW,lW,hW,mW,bW⟩
   generalize w2.heap.size=bK at lW ⊢
   generalize w3.heap.size=bH at hW ⊢
   apply LU;. kernel_rfl
   apply rV;. intros;apply ol;go_simp;exact gl
   apply rV;. intro w' hg _;apply ol;have vv:=(vW.grown ((Below.refl _ _).drew)).grown hg;have y7:=vv.c7;go_simp;exact gl
   apply rV;. intros;apply ol;go_simp;exact gl
   apply rV;. intro w' hg _;apply ol;have vv:=(vW.grown ((Below.refl _ _).drew)).grown hg;have y7:=vv.c7;go_simp;exact gl
   apply rV;. intros;apply ol;go_simp;exact gl
   apply rV;. intro w' hg _;apply ol;have vv:=(vW.grown ((Below.refl _ _).drew)).grown hg;have y0:=vv.c0;have y1:=vv.c1;have y2:=vv.c2;have y3:=vv.c3;have y4:=vv.c4;have y5:=vv.c5;have y6:=vv.c6;go_simp;exact gl
   try simp only[pu,s0,s1]
   apply rV;. intros;apply ol;go_simp;exact gl
   apply rV;. intro w' hg _;apply ol;have hw:=hW.drew.grown hg;have y0:=hw.at0 0 rfl;go_simp;exact gl
   apply rV;. intro w' hg _;apply ol;go_simp;exact cb (hsl _)
   apply rV;. intro w' hg _;apply ol;have hm:=(mW.below ((Below.refl _ _).drew)).below hg;go_simp;exact cc (hpk _ hm)
   apply rV;. intro w' hg _;apply ol;go_simp;exact cb (hsw _)
   apply rV;. intros;apply ol;go_simp;exact gl
   try simp only[pu,s0,s1]
   apply rV (c:=iV ((a+1:Nat):Int));. intro w' hg _;apply ol;go_simp;exact⟨Grown.refl _,congrArg (Value.int .i64) (by rw[IntKind.wrap_i64];omega)⟩
   apply rV;. intro w' hg _;apply ol;have hm:=(mW.below ((Below.refl _ _).drew)).below hg;go_simp;exact cc (hp2 _ hm)
   apply rV;. intro w' hg _;apply ol;go_simp;exact cb (hcl _)
   apply rV;. intros;apply ol;go_simp;exact gl
   apply X9;. intros;apply ol;go_simp;exact gl
   try simp only[pu,s0,s1]
   intro w5 hg _
   have g5:Below W.heap.size W w5:=grow ((Below.refl _ _).drew) hg
   have v5:=vW.grown g5
   have m5:=mW.below g5
   have l5:=lW.grown g5
   have b5:=grow bW g5
   have l0:=l5.at0 0 rfl
   have l1:=l5.at0 1 rfl
   clear vW mW lW hW bW hg
   by_cases hgn:4294967296<=lk
   . rw[show Yx lk=true from decide_eq_true hgn] at l1
     have S2:Hid (Om (h.ky hd) h.lk hd (A ++ [c]) B' kk):=HS.out.skip (by rw[nJ.out];exact hgn)
     clear hgn
     go_wp2
     go_roundw
     case rel=>exact⟨A ++ [c],B',kk,by rw[sU.out],rfl,by rw[List.length_append];go_num,by rw[HF.out];simp,S2.out,v5,m5,b5⟩
     case measure=>simp[intOf];omega
   . rw[show Yx lk=false from decide_eq_false hgn] at l1
     obtain⟨x1,x2,x3,x4⟩:=HS.out.next (by rw[nJ.out];omega)
     obtain⟨kc,hkc,zc,hlt⟩:=HZ.out.1 c (by rw[HF.out];simp) (by rw[HF.out];exact x2) (by omega)
     have XH:Hid (kk<=kc/\(∀ i:Nat,kk<=i->i<kc->z i=false)/\z kc=true/\kc<ln/\Om (h.ky hd) h.lk hd (A ++ [c]) B' (kc+1)):=⟨by omega,fun i h1 h2=>(HZ.out.2 i (fun hI=>x3 i (by omega) (by omega) (by rw[<- HF.out];exact hI))).resolve_right (by omega),zc,hlt,x4 kc hkc.symm⟩
     have nG:ky=(kc:Int):=by rw[<- nH.out];exact hkc
     rw[nG]
     clear x1 x2 x3 x4 zc hkc hlt hgn nG
     go_wp2
     go_loopw [8] (fun kv wr=>∃ k':Nat,kv=iV k'/\kk<=k'/\k'<=kc/\ZU wr w.heap.size 4 n 12 40 100 600 3 L.p who/\Z9 wr L s/\Below w.heap.size w wr) (fun kv _=>100 - (intOf kv).toNat)
     case atStart=>exact⟨kk,rfl,Nat.le_refl _,XH.out.1,v5,m5,b5⟩
     case round =>
      clear v5 m5 b5 l5 l0 l1
      obtain⟨k',rfl,hk1,hk2,v6,m6,b6⟩:=hrel
      have hkl:(k':Int)<(ln:Int):=by have:=XH.out.2.2.2.1;omega
      have cI:wr.cell? ⟨bI,k',none⟩=some (.bool (z k')):=keep' b6 (nM.out k' (by omega))
      by_cases hlt:k'<kc
      . rw[XH.out.2.1 k' hk1 hlt] at cI
        go_wp2
        go_roundw
        case rel=>exact⟨k'+1,by go_num,by omega,by omega,v6,m6,b6⟩
        case measure=>simp[intOf];omega
      . obtain rfl:k'=kc:=by omega
        rw[XH.out.2.2.1] at cI
        have S2:Hid (Om (h.ky hd) h.lk hd (A ++ [c]) B' (k'+1)):=XH.out.2.2.2.2
        clear XH hlt hk1 hk2
        go_wp2
        go_roundw
        case rel=>exact⟨A ++ [c],B',k'+1,by rw[sU.out],by go_num,by rw[List.length_append];go_num,by rw[HF.out];simp,S2.out,v6,m6,b6⟩
        case measure=>simp[intOf];omega
end
section
theorem uz:∃ i0,Tryz.prog.info? 4=some i0/\i0.zero=some (.bool false)/\i0.size=1/\i0.bytes=1:=by
 have h:(Tryz.prog.info? 4).map (fun i=>(i.zero,i.size,i.bytes))=some (some (.bool false),1,1):=by kernel_rfl
 cases e:Tryz.prog.info? 4 with
 | none=>rw[e] at h;cases h
 | some i =>
  rw[e] at h
  simp only[Option.map_some,Option.some.injEq,Prod.mk.injEq] at h
  exact⟨i,rfl,h.1,h.2.1,h.2.2⟩
theorem Nh {w w':World} (h:w.grownBy w' none):Grown w w':=⟨h.os,h.tape,h.output,h.size,fun k hk=>h.block k hk (by simp)⟩
structure Bz (w:World) (B ln:Nat) (z:Nat->Bool):Prop where
 ex:∃ c,w.heap[B]?=some (.cells c 4 (0,0))/\ln<=c.size/\∀ i,i<ln->c[i]?=some (.bool (z i))
namespace Bz
variable {w w':World} {B ln:Nat} {z:Nat->Bool}
theorem lt (h:Bz w B ln z):B<w.heap.size:=by obtain⟨c,k,-⟩:=h.ex;exact UA k
theorem cell (h:Bz w B ln z) {i:Nat} (hi:i<ln):w.cell? ⟨B,i,none⟩=some (.bool (z i)):=by
 obtain⟨c,k,-,k2⟩:=h.ex;exact ZR k (k2 i hi)
theorem fz (h:Bz w B ln z) (i:Nat):w.frozen? ⟨B,i,none⟩=false:=by obtain⟨c,k,-⟩:=h.ex;exact Ym k i
theorem of_block (h:Bz w B ln z) (e:w'.heap[B]?=w.heap[B]?):Bz w' B ln z:=⟨h.ex.imp fun _ k=>⟨e.trans k.1,k.2⟩⟩
theorem grown (h:Bz w B ln z) (g:Below w.heap.size w w'):Bz w' B ln z:=h.of_block (g.block _ h.lt)
theorem only {S:Nat->Prop} (h:Bz w B ln z) (o:Only S w w') (hs:¬ S B):Bz w' B ln z:=h.of_block (o.block _ h.lt hs)
theorem set (h:Bz w B ln z) {j:Nat} (hj:j<ln) (v:Bool):Bz (w.setCell ⟨B,j,none⟩ (.bool v)) B ln (upd z j v):=by
 obtain⟨c,k,k1,k2⟩:=h.ex
 refine⟨⟨c.setIfInBounds j (.bool v),ZT _ _ _ _ _ _ k,by simpa using k1,fun i hi=>?_⟩⟩
 by_cases e:i=j
 . subst e
   rw[upd_same,Array.getElem?_setIfInBounds_self_of_lt (by omega)]
 . rw[Z7 _ _ _ _ e,Array.getElem?_setIfInBounds_ne (fun e'=>e e'.symm)];exact k2 i hi
theorem made {base:Nat} {B ln:Nat} (h:w.ownsRow base 4 1 (.slice (some ⟨B,0,none⟩) ln ln) ln (madeCells #[.bool false] (ln * 1)).toList) (h0:0<ln):Bz w B ln (fun _=>false):=by
 rcases h.2 with⟨_,h2⟩ | ⟨g',cap',cur,h',hb,hg',hcap,hmax,hsz,htake⟩
 . omega
 . cases h'
   refine⟨⟨cur,hg',by omega,fun i hi=>?_⟩⟩
   have e1:cur.toList[i]?=(madeCells #[.bool false] (ln * 1)).toList[i]?:=by
    rw[<- htake,List.getElem?_take,if_pos (by omega)]
   rw[Array.getElem?_toList] at e1
   rw[e1,Array.getElem?_toList]
   unfold madeCells
   rw[Array.getElem?_map,Array.getElem?_range,if_pos (by omega)]
   simp[Nat.mod_one]
end Bz
def WH (n:Nat) (L:Loc) (J:Nat) (w:World) (z:Nat->Bool) (M:Nat):Prop :=
 ∃ s σ q pn h jb F u ts,Rest 4 n L 0 97 J w s σ q pn h jb 0 F u ts/\h.H 0=65536/\σ<=M/\∀ x:Int,0<=x->(u.S σ x↔∃ i,i<16/\x=(i:Nat)/\z i=true)
section
variable {n J M:Nat} {L:Loc} {w w':World} {z:Nat->Bool}
theorem WH.only {S:Nat->Prop} (A:WH n L J w z M) (o:Only S w w') (hs:∀ x,L.has x->¬ S x):WH n L J w' z M:=by
 obtain⟨s,σ,q,pn,h,jb,F,u,ts,R,k⟩:=A
 exact⟨s,σ,q,pn,h,jb,F,u,ts,⟨R.mm.only o hs,R.vl,R.lc,R.nn,R.room,R.hJ,R.pn,R.td⟩,k⟩
theorem WH.grown (A:WH n L J w z M) (g:Below w.heap.size w w'):WH n L J w' z M:=by
 obtain⟨s,σ,q,pn,h,jb,F,u,ts,R,k⟩:=A
 exact⟨s,σ,q,pn,h,jb,F,u,ts,⟨R.mm.below g,R.vl,R.lc,R.nn,R.room,R.hJ,R.pn,R.td⟩,k⟩
theorem WH.lt (A:WH n L J w z M) {x:Nat} (hx:L.has x):x<w.heap.size:=by
 obtain⟨s,σ,q,pn,h,jb,F,u,ts,R,k⟩:=A
 exact R.mm.lt x hx
theorem WH.up {J' M':Nat} (A:WH n L J w z M) (hJ:J<=J') (hM:M<=M'):WH n L J' w z M':=by
 obtain⟨s,σ,q,pn,h,jb,F,u,ts,R,e1,e2,e3⟩:=A
 exact⟨s,σ,q,pn,h,jb,F,u,ts,⟨R.mm,R.vl,R.lc,R.nn,R.room,Nat.le_trans R.hJ hJ,R.pn,R.td⟩,e1,Nat.le_trans e2 hM,e3⟩
theorem WH.first {s:Mm} {σ:Nat} {F:List Nat} (R:Rest 4 n L 0 97 1 w s σ (qH 4 n 12 40 F) (fun _=>0) (yY 4 n 12 40) (fun _=>.nil) 0 [0] rM (fun _=>none)) (hσ:σ<=M):WH n L 1 w (fun _=>false) M :=
 ⟨s,σ,_,_,_,_,_,_,_,R,yX 4 n 12 40,hσ,fun x _=>⟨fun e=>((hi0 σ x).1 e).elim,fun⟨_,_,_,e⟩=>by cases e⟩⟩
def Ce (z:Nat->Bool) (kd:Int) (k:Nat):Nat->Bool:=if kd=1 then z else upd z k (decide (kd=2))
theorem WH.ask (A:WH n L J w z M) (h1:1<=n) (h2:n<=40) (hJ:J+1<=97) (hM:M+2550<1000000) {kd:Int} {k:Nat} (hk:kd=1\/kd=2\/kd=3) (k1:k<16) :
 Calls Tryz.prog 11 #[Nb 4 n 12 40 100 600 3 L.p 0,.int .u64 65536,iV kd,iV k] w fun e w'=>∃ (E v:Int) (st:Nat),e=.returned (.agg #[iV E,.int .u64 0,iV v,iV st])/\Only L.has w w' /\
  ((E=0/\v=(if z k=decide (kd≠2) then 1 else 0)/\(kd=2->z k=false->2+XM z 16<=n)/\WH n L (J+(if kd=2 then 1 else 0)) w' (Ce z kd k) (M+2550))\/(E=7/\v=0/\kd=2/\z k=false/\1+XM z 16=n/\WH n L (J+1) w' z (M+2550))):=by
 obtain⟨s,σ,q,pn,h,jb,F,u,ts,R,e1,e2,e3⟩:=A
 refine(IU (kd:=kd) (key:=k) R (PG h1 h2) h2 hJ (by decide) (by decide) (by decide) (by decide) (by omega) hk (by omega) (by omega) e1).mono ?_
 rintro e w' ⟨E,v,st,s',σ',q',YB,h',Oc,F',u',ts',rfl,R',fin,-,hs,on,hH⟩
 refine⟨E,v,st,rfl,on,?_⟩
 have ek:u.S σ k↔z k=true:=by
  rw[e3 k (by omega)]
  constructor
  . rintro⟨i,_,a,b⟩
    have:k=i:=by omega
    rw[this];exact b
  . exact fun e=>⟨k,k1,rfl,e⟩
 obtain⟨T,tj⟩:=R'.td (by decide)
 by_cases E0:E=0
 . obtain⟨f1,f2⟩:=fin.yes E0
   have e4:∀ x:Int,0<=x->(u'.S σ' x↔∃ i,i<16/\x=(i:Nat)/\Ce z kd k i=true):=fun x hx=>by
    rw[f2 x hx]
    by_cases c:kd≠1/\x=k
    . rw[if_pos c]
      unfold Ce
      rw[if_neg c.1]
      constructor
      . exact fun e=>⟨k,k1,c.2,by rw[upd_same];exact decide_eq_true e⟩
      . rintro⟨i,_,a,b⟩
        have:i=k:=by have:=c.2;omega
        rw[this,upd_same] at b
        exact of_decide_eq_true b
    . rw[if_neg c,e3 x hx]
      unfold Ce
      by_cases c1:kd=1
      . rw[if_pos c1]
      . rw[if_neg c1]
        have hx':x≠k:=fun e=>c ⟨c1,e⟩
        constructor
        . rintro⟨i,a,b,d⟩
          exact⟨i,a,b,by rw[Z7 _ _ _ _ (by omega)];exact d⟩
        . rintro⟨i,a,b,d⟩
          rw[Z7 _ _ _ _ (by omega)] at d
          exact⟨i,a,b,d⟩
   refine Or.inl ⟨E0,?_,fun k2 zk=>?_,s',σ',q',YB,h',Oc,F',u',ts',R',hH,by omega,e4⟩
   . rw[ek] at f1
     rcases f1 with⟨a,b⟩ | ⟨a,b⟩
     . rw[a,if_pos]
       by_cases c:kd=2
       . rw[decide_eq_false (fun h=>h c)]
         cases hz:z k with
         | false=>rfl
         | true=>exact absurd c (b.1 hz)
       . rw[decide_eq_true c];exact b.2 c
     . rw[a,if_neg]
       intro hz
       refine b ⟨fun e=>?_,fun e=>?_⟩
       . rw[e] at hz;exact of_decide_eq_true hz.symm
       . rw[hz];exact decide_eq_true e
   . have l1:=T.keys R'.lc e4
     have l2:=R'.lc.len
     have l3:=UM (ln:=16) (z:=z) k (decide (kd=2)) k1
     have l4:Ce z kd k=upd z k (decide (kd=2)):=by unfold Ce;rw[if_neg (by omega)]
     rw[l4] at l1
     rw[decide_eq_true k2] at l1 l3
     rw[zk] at l3
     simp at l3
     omega
 . obtain⟨f1,f2,f3,f4,f5,f6⟩:=fin.no E0
   have e4:∀ x:Int,0<=x->(u'.S σ' x↔∃ i,i<16/\x=(i:Nat)/\z i=true):=fun x hx=>(f5 x hx).trans (e3 x hx)
   have l1:=T.keys R'.lc e4
   have l2:=T.count R'.lc (fun K=>(tj K).1)
   rw[f4] at l2
   simp at l2
   rw[f3,if_pos rfl] at R'
   refine Or.inr ⟨f1,f2,f3,?_,by omega,s',σ',q',YB,h',Oc,F',u',ts',R',hH,by omega,e4⟩
   cases hz:z k with
   | false=>rfl
   | true=>exact absurd (ek.2 hz) f6
theorem uw {k:Nat}:Ce z 1 k=z:=if_pos rfl
theorem xM {k:Nat}:Ce z 2 k=upd z k true:=if_neg (by decide)
theorem qp {k:Nat}:Ce z 3 k=upd z k false:=if_neg (by decide)
theorem WH.sorted (A:WH n L J w z M) (h1:1<=n) (h2:n<=40) (hJ:J<=97) {B:Nat} (bz:Bz w B 16 z) (who:Int) :
 Calls Tryz.prog 12 #[eV 4 n 12 40 100 600 3 L.p who,.int .u64 65536,.slice (some ⟨B,0,none⟩) 16 16] w fun e w'=>e=.returned (.bool true)/\Below w.heap.size w w':=by
 obtain⟨s,σ,q,pn,h,jb,F,u,ts,R,e1,e2,e3⟩:=A
 have hl:=R.vl.tw.len
 have ha:ZI 4 n 12 40=6+4+n * 2+12 * 3+12 * 40:=rfl
 have hj:=R.hJ
 have:=Kz (bI:=B) (ln:=16) (z:=z) (PG h1 h2) R.mm (by omega) (fun j hj'=>R.lc.node R.vl (PG h1 h2) (by omega) (by omega) hj') R.lc.l.l (Nat.le_trans R.lc.len (by omega)) (fun i hi=>bz.cell hi) (by decide) (fun x hx=>(R.lc.l.S x hx).symm.trans (e3 x hx)) (by unfold Gh.ky;rw[if_pos rfl]) who
 rw[e1] at this
 exact this
end
end
section
theorem KD {z:Nat->Bool} {ln:Nat} (h:0<XM z ln):∃ l,l<ln/\z l=true:=by
 unfold XM at h
 induction ln with
 | zero=>exact absurd h (Nat.lt_irrefl 0)
 | succ k ih =>
  have h:0<tot (fun i=>if z i then 1 else 0) k+(if z k then 1 else 0):=h
  cases e:z k with
  | true=>exact⟨k,Nat.lt_succ_self _,e⟩
  | false =>
   rw[e] at h
   obtain⟨l,h1,h2⟩:=ih (by simpa using h)
   exact⟨l,by omega,h2⟩
theorem xK {z:Nat->Bool} {k:Nat} {b:Bool} (h:z k=b):upd z k b=z:=by
 funext i
 by_cases e:i=k
 . rw[e,upd_same,h]
 . exact Z7 _ _ _ _ e
section
variable {n J J' M M':Nat} {L:Loc} {w w':World} {z z':Nat->Bool}
theorem WH.Gy (A:WH n L J w z M) (h1:1<=n) (h2:n<=40) (hJ:J+1<=97) (hM:M+2550<1000000) {kd v:Int} {k:Nat} {b:Bool} (hk:kd=1\/kd=2\/kd=3) (k1:k<16) (hz:z k=b) (hv:(if b=decide (kd≠2) then 1 else 0)=v) (hf:kd=2->b=false->2+XM z 16<=n) (hJ':J+(if kd=2 then 1 else 0)<=J') (hM':M+2550<=M') (hz':Ce z kd k=z') :
 Calls Tryz.prog 11 #[Nb 4 n 12 40 100 600 3 L.p 0,.int .u64 65536,iV kd,iV k] w fun e w'=>∃ st:Nat,e=.returned (.agg #[iV 0,.int .u64 0,iV v,iV st])/\Only L.has w w'/\WH n L J' w' z' M':=by
 refine(A.ask h1 h2 hJ hM hk k1).mono ?_
 rintro e w' ⟨E,v',st,rfl,on,h⟩
 rcases h with⟨rfl,e2,-,e3⟩ | ⟨-,-,e2,e3,e5,-⟩
 . rw[hz,hv] at e2
   rw[e2,<- hz']
   exact⟨st,rfl,on,e3.up hJ' hM'⟩
 . have:=hf e2 (hz.symm.trans e3)
   omega
theorem WH.uy (A:WH n L J w z M) (h1:1<=n) (h2:n<=40) (hJ:J+1<=97) (hM:M+2550<1000000) {k:Nat} (k1:k<16) (hz:z k=false) (hf:n<=1+XM z 16) (hJ':J+1<=J') (hM':M+2550<=M') :
 Calls Tryz.prog 11 #[Nb 4 n 12 40 100 600 3 L.p 0,.int .u64 65536,iV 2,iV k] w fun e w'=>∃ st:Nat,e=.returned (.agg #[iV 7,.int .u64 0,iV 0,iV st])/\Only L.has w w'/\WH n L J' w' z M':=by
 refine(A.ask h1 h2 hJ hM (Or.inr (Or.inl rfl)) k1).mono ?_
 rintro e w' ⟨E,v',st,rfl,on,h⟩
 rcases h with⟨rfl,-,e2,-⟩ | ⟨rfl,rfl,-,-,-,e3⟩
 . have:=e2 rfl hz
   omega
 . exact⟨st,rfl,on,e3.up hJ' hM'⟩
end
end
end Go.Proofs.YtpbghmeikcphnaaGreat
