import Derived.Test.YtpbghmeikcphnaaGreatLstChain
import Derived.Test.YtpbghmeikcphnaaGreatLstNode
import Derived.Test.YtpbghmeikcphnaaGreatLstAwake
import Derived.Test.YtpbghmeikcphnaaGreatLstCount
import Derived.OwnWalk
namespace Go.Proofs.YtpbghmeikcphnaaGreat
open Go.RowKit
section
structure NZ (ky lk:Nat->Int) (hd:Nat) (A B:List Nat) (kk:Nat):Prop where
 so:(hd :: (A ++ B)).Pairwise (fun a b=>ky a<ky b)
 h1:ky hd=-1
 top:kk=0\/∃ c,c∈A/\lk c<4294967296/\ky c+1=kk
 lo:∀ c,c∈A->lk c<4294967296->ky c<kk
section
variable {ky lk:Nat->Int} {hd:Nat} {A B:List Nat} {kk:Nat}
theorem NZ.first {C:List Nat} (so:(hd :: C).Pairwise (fun a b=>ky a<ky b)) (h1:ky hd=-1):NZ ky lk hd [] C 0:=⟨so,h1,Or.inl rfl,fun c hc=>by cases hc⟩
theorem NZ.skip {c:Nat} (S:NZ ky lk hd A (c :: B) kk) (hg:4294967296<=lk c):NZ ky lk hd (A ++ [c]) B kk:=by
 refine⟨by have:=S.so;simpa using this,S.h1,S.top.imp id ?_,fun d hd' hl=>?_⟩
 . rintro⟨d,h1,h2,h3⟩
   exact⟨d,List.mem_append.2 (Or.inl h1),h2,h3⟩
 . rcases List.mem_append.1 hd' with h | h
   . exact S.lo d h hl
   . rw[List.mem_singleton.1 h] at hl;omega
theorem NZ.rest (S:NZ ky lk hd A B kk) {y:Int} (hy:(kk:Int)<=y) (h:Q8 ky lk (hd :: (A ++ B)) y):∃ c,c∈B/\ky c=y/\lk c<4294967296:=by
 obtain⟨c,h1,h2,h3⟩:=h
 rcases List.mem_cons.1 h1 with e | h1
 . rw[e,S.h1] at h2;omega
 . rcases List.mem_append.1 h1 with h1 | h1
   . have:=S.lo c h1 h3;omega
   . exact⟨c,h1,h2,h3⟩
theorem NZ.next {c:Nat} (S:NZ ky lk hd A (c :: B) kk) (hl:lk c<4294967296):(kk:Int)<=ky c/\Q8 ky lk (hd :: (A ++ c :: B)) (ky c)/\(∀ y:Int,(kk:Int)<=y->y<ky c->¬ Q8 ky lk (hd :: (A ++ c :: B)) y)/\∀ x:Nat,(x:Int)=ky c->NZ ky lk hd (A ++ [c]) B (x+1):=by
 have so:=S.so
 obtain⟨s1,s2⟩:=List.pairwise_cons.1 so
 obtain⟨s3,s4,s5⟩:=List.pairwise_append.1 s2
 obtain⟨s6,s7⟩:=List.pairwise_cons.1 s4
 have hc0:=s1 c (by simp)
 have hk:(kk:Int)<=ky c:=by
  rcases S.top with e | ⟨d,h1,h2,h3⟩
  . have:=S.h1;omega
  . have:=s5 d h1 c (by simp);omega
 refine⟨hk,⟨c,by simp,rfl,hl⟩,fun y h1 h2 hS=>?_,fun x hx=>⟨by simpa using so,S.h1,Or.inr ⟨c,by simp,hl,by omega⟩,fun d hd' hl'=>?_⟩⟩
 . obtain⟨d,e1,e2,-⟩:=S.rest h1 hS
   rcases List.mem_cons.1 e1 with e | e
   . rw[e] at e2;omega
   . have:=s6 d e;omega
 . rcases List.mem_append.1 hd' with h | h
   . have:=s5 d h c (by simp);omega
   . rw[List.mem_singleton.1 h];omega
theorem NZ.end_ (S:NZ ky lk hd A [] kk) {y:Int} (hy:(kk:Int)<=y):¬ Q8 ky lk (hd :: A) y:=fun h=>by
 have:=S.rest (y:=y) hy (by simpa using h)
 obtain⟨c,h1,-⟩:=this
 cases h1
end
end
section
set_option maxRecDepth 20000
def hB (h:Gh):List Nat->Int
 | []=>0
 | c :: _=>h.H c
theorem O9 {h:Gh} {A B:List Nat} {c:Nat} (L:Linked h.lk h.H (A ++ c :: B)):h.lk c % 4294967296=hB h B:=by
 have:=Linked.mid L
 cases B with
 | nil=>exact this
 | cons b B=>exact this.1
set_option maxRecDepth 20000 in
set_option maxHeartbeats 4000000 in
theorem Jo {n:Nat} {L:Loc} {w:World} {s:Mm} {h:Gh} {hd:Nat} {F:List Nat} {bI ln:Nat} {z:Nat->Bool} (hG:Good 4 n 12 40 100 600 3) (mm:Z5 w L s) (hl:6+4+n * 2<=s.n) (nr:∀ j,j∈F->Ic n s (h.H j) (h.nd j).x (h.nd j).a (h.cv j 0) (h.lk j)) (lst:VA h.ZJ (h.ky hd) h.lk h.H hd F) (hlen:F.length<=41) (bz:∀ i,i<ln->w.cell? ⟨bI,i,none⟩=some (.bool (z i))) (hln:ln<=16) (hz:∀ x:Int,0<=x->(Q8 (h.ky hd) h.lk F x↔∃ i,i<ln/\x=(i:Nat)/\z i=true)) (hh:h.ky hd hd=-1) (who:Int) :
 Calls Tryz.prog 12 #[eV 4 n 12 40 100 600 3 L.p who,.int .u64 (h.H hd),.slice (some ⟨bI,0,none⟩) ln ln] w fun e w'=>e=.returned (.bool true)/\Below w.heap.size w w':=by
 obtain⟨C,hC⟩:=lst.hf
 have bZ:Hid (∀ j,j∈F->Ic n s (h.H j) (h.nd j).x (h.nd j).a (h.cv j 0) (h.lk j)):=nr
 have HG:Hid (Good 4 n 12 40 100 600 3):=hG
 have HL:Hid (6+4+n * 2<=s.n):=hl
 have kL:Hid (VA h.ZJ (h.ky hd) h.lk h.H hd F):=lst
 have bY:Hid (F.length<=41):=hlen
 have rF:Hid (∀ i,i<ln->w.cell? ⟨bI,i,none⟩=some (.bool (z i))):=bz
 have iU:Hid (NZ (h.ky hd) h.lk hd [] C 0):=NZ.first (by rw[<- hC];exact lst.so) hh
 have HZ:Hid ((∀ c,c∈F->Q8 (h.ky hd) h.lk F (h.ky hd c)->(0:Int)<=h.ky hd c->∃ kc:Nat,h.ky hd c=kc/\z kc=true/\kc<ln)/\∀ i:Nat,¬ Q8 (h.ky hd) h.lk F i->z i=false\/ln<=i):=by
  refine⟨fun c _ hI h0=>?_,fun i hI=>?_⟩
  . obtain⟨i,h1,h2,h3⟩:=(hz _ h0).1 hI
    exact⟨i,h2,h3,h1⟩
  . by_cases hi:i<ln
    . refine Or.inl ?_
      cases hzi:z i with
      | false=>rfl
      | true=>exact absurd ((hz i (by omega)).2 ⟨i,hi,rfl,hzi⟩) hI
    . exact Or.inr (by omega)
 have n0:=fun w1 (g1:Below w.heap.size w w1)=>LP hG (mm.below g1) (nr hd (by rw[hC];simp)) hl who
 have HB0:Hid (h.lk hd % 4294967296=hB h C):=O9 (A:=[]) (by rw[List.nil_append,<- hC];exact lst.XI)
 rw[HB0.out] at n0
 have fl:∀ (a1 a2:Value) (w:World),(Instr.field 59 (.agg #[a1,a2]) 0).run Tryz.prog w=.ok a1 w:=fun a1 a2 w=>by kernel_rfl
 have v0:=(ZP.new (w:=w) (P:=L.p) (c0:=4) (c1:=n) (c2:=12) (c3:=40) (c4:=100) (c5:=600) (c6:=3) (who:=who) (T:=27))
 obtain⟨y0,y1,y2,y3,y4,y5,y6,y7,y8⟩:=id v0
 have HM:Hid (Z5 w L s):=mm
 clear nr hG hl lst hlen bz hz hh mm
 go_enter Tryz.func12,Tryz.ntmps12
 go_wp2_with (go_at_call 24;refine(n0 _ (ZY _ _)).mono ?_;rintro e w1 ⟨rfl,g1⟩)
 have A1:Hid (ZP w1 w.heap.size 4 n 12 40 100 600 3 L.p who/\Z5 w1 L s/\Below w.heap.size w w1):=⟨v0.grown g1,(HM.out.alloc _).below g1,grow (ZY _ _) g1⟩
 clear y0 y1 y2 y3 y4 y5 y6 y7 y8 v0 n0 g1
 go_loopw [7,8,9] (fun av kv nv wr=>∃ (A B:List Nat) (kk:Nat),av=.int .u64 (hB h B)/\kv=iV kk/\nv=iV A.length/\F=hd :: (A ++ B)/\NZ (h.ky hd) h.lk hd A B kk/\ZP wr w.heap.size 4 n 12 40 100 600 3 L.p who/\Z5 wr L s/\Below w.heap.size w wr) (fun _ _ nv _=>100 - (intOf nv).toNat)
 case atStart=>exact⟨[],C,0,rfl,rfl,rfl,by rw[List.nil_append];exact hC,iU.out,A1.out⟩
 case round =>
  clear A1 iU HB0
  obtain⟨A,B,kk,rfl,rfl,rfl,hF,hS,v,m,b⟩:=hrel
  have HF:Hid (F=hd :: (A ++ B)):=hF
  have HS:Hid (NZ (h.ky hd) h.lk hd A B kk):=hS
  have hA:((A.length:Nat):Int)<60:=by have:=bY.out;rw[hF,List.length_cons,List.length_append] at this;omega
  clear hF hS
  cases B with
  | nil =>
   rw[show hB h []=0 from rfl]
   have XH:Hid (∀ i:Nat,kk<=i->i<ln->z i=false):=fun i h1 h2=>(HZ.out.2 i (fun hI=>HS.out.end_ (y:=(i:Int)) (by omega) (by rw[HF.out,List.append_nil] at hI;exact hI))).resolve_right (by omega)
   clear HS HF
   go_wp2
   go_loopw [8] (fun kv wr=>∃ k':Nat,kv=iV k'/\kk<=k'/\Below w.heap.size w wr) (fun kv _=>100 - (intOf kv).toNat)
   case atStart=>exact⟨kk,rfl,Nat.le_refl _,b⟩
   case round =>
    clear v m b
    obtain⟨k',rfl,hk1,b6⟩:=hrel
    by_cases hlt:(k':Int)<(ln:Int)
    . have cI:wr.cell? ⟨bI,k',none⟩=some (.bool (z k')):=keep' b6 (rF.out k' (by omega))
      rw[XH.out k' hk1 (by omega)] at cI
      have bV:=hln
      go_wp2
      go_roundw
      case rel=>exact⟨k'+1,by go_num,by omega,b6⟩
      case measure=>simp[intOf];omega
    . go_wp2
      go_ret
      exact⟨rfl,b6⟩
  | cons c B' =>
   rw[show hB h (c :: B')=h.H c from rfl]
   have R:=bZ.out c (by rw[HF.out];simp)
   have hkc:h.ky hd c=h.cv c 0:=by
    unfold Gh.ky
    rw[if_neg (fun e=>?_)]
    have so:=HS.out.so
    have:=(List.pairwise_cons.1 so).1 c (by simp)
    rw[e] at this
    omega
   have nd:=fun w1 (m1:Z5 w1 L s)=>LP HG.out m1 R HL.out who
   have vk:h.lk c % 4294967296=hB h B':=O9 (A:=hd :: A) (by rw[List.cons_append,<- HF.out];exact kL.out.XI)
   rw[vk] at nd
   obtain⟨h0,h1,hx,xn,⟨sw,e0,s0',s1',ea⟩,ab,a9,⟨ek,k0,k1⟩,el,l0,l1⟩:=R
   have hz0:(h.H c == 0)=false:=by
    have:h.H c≠0:=by omega
    simpa using this
   have hh2:=fun w=>Um (h.H c) w h0 h1
   have hx2:((h.nd c).x:Int)<=1000000:=by have:=HG.out.n1;omega
   have hsl:=fun w=>Y9 4 n 12 40 100 600 3 (h.nd c).x w HG.out.arena (by omega) hx2
   have hpk:=fun w (m:Z5 w L s)=>Ri m (6+4+(h.nd c).x * 2) (by have:=HL.out;omega) sw e0
   have hsw:=fun w=>TW sw w s0' s1'
   have hp2:=fun w (m:Z5 w L s)=>Ri m ((h.nd c).a+1) (by omega) (h.cv c 0) ek
   have hcl:=fun w=>QH (h.cv c 0) w k0 (by omega)
   rw[ea] at hsw
   rw[show h.cv c 0 % 1099511627776=h.cv c 0 by omega,decide_eq_false (by omega:¬ 9223372036854775808<=h.cv c 0),if_neg (by omega:¬ 9223372036854775808<=h.cv c 0)] at hcl
   rw[hx] at hh2
   have fc:∀ (a1 a2 a3:Value) (w:World),(Instr.field 79 (.agg #[a1,a2,a3]) 0).run Tryz.prog w=.ok a1 w:=fun a1 a2 a3 w=>by kernel_rfl
   have fs:∀ (a1 a2 a3 a4:Value) (w:World),(Instr.field 83 (.agg #[a1,a2,a3,a4]) 1).run Tryz.prog w=.ok a2 w:=fun a1 a2 a3 a4 w=>by kernel_rfl
   have qj:h.lk c=h.lk c:=rfl
   generalize hgk:h.lk c=lk at nd qj vk el l0 l1
   have iT:Hid (h.lk c=lk):=hgk
   have iR:Hid (h.ky hd c=h.cv c 0):=hkc
   have yx:Hid (hB h B'=hB h B'):=rfl
   generalize h.cv c 0=ky at hp2 hcl iR
   generalize (h.nd c).x=x at hsl hpk hh2 hx2
   generalize (h.nd c).a=a at hsw hp2 a9
   generalize h.H c=Hc at nd hh2 hz0 ⊢
   generalize qi:hB h B'=nx at nd yx
   clear yx
   have yx:Hid (nx=hB h B'):=qi.symm
   generalize sw % 8=s0 at hsw
   generalize sw / 8388608 % 65536=s2 at hsw
   generalize sw / 549755813888 % 4194304=s3 at hsw
   generalize Hc / 65536=Hg at hh2
   clear h0 h1 hx xn e0 s0' s1' ea ab ek k0 k1 el l0 l1 hgk hkc qj vk qi
   obtain⟨y0,y1,y2,y3,y4,y5,y6,y7,y8⟩:=id v
   go_wp2_with (first
    | (go_at_call 24;refine(nd _ m).mono ?_;rintro e w2 ⟨rfl,g2⟩)
    | (go_at_call 25;refine(hh2 _).mono ?_;rintro e w3 ⟨rfl,g3⟩))
   refine ZT (fun W=>ZP W w.heap.size 4 n 12 40 100 600 3 L.p who/\At W w2.heap.size 0 59 #[.int .u64 nx,.bool (YD lk)] [.int .u64 nx,.bool (YD lk)]/\At W w3.heap.size 0 75 #[iV x,iV Hg] [iV x,iV Hg]/\Z5 W L s/\Below w.heap.size w W) ⟨(((v.grown g2).grown (ZY _ _)).grown g3).grown (ZY _ _),((At.new w2 59 [.int .u64 nx,.bool (YD lk)]).grown g3).grown (ZY _ _),At.new w3 75 [iV x,iV Hg],(((m.below g2).alloc _).below g3).alloc _,Z4 (grow (Z4 (grow b g2) _) g3) _⟩ ?_
   clear v m b y0 y1 y2 y3 y4 y5 y6 y7 y8 g2 g3
   rintro W ⟨vW,lW,hW,mW,bW⟩
   generalize w2.heap.size=bK at lW ⊢
   generalize w3.heap.size=bH at hW ⊢
   apply xX;. kernel_rfl
   apply rV;. intros;apply ol;go_simp;exact gl
   apply rV;. intro w' hg _;apply ol;have vv:=(vW.grown ((Below.refl _ _).drew)).grown hg;have y7:=vv.c7;go_simp;exact gl
   apply rV;. intros;apply ol;go_simp;exact gl
   apply rV;. intro w' hg _;apply ol;have vv:=(vW.grown ((Below.refl _ _).drew)).grown hg;have y7:=vv.c7;go_simp;exact gl
   apply rV;. intros;apply ol;go_simp;exact gl
   apply rV;. intro w' hg _;apply ol;have vv:=(vW.grown ((Below.refl _ _).drew)).grown hg;have y0:=vv.c0;have y1:=vv.c1;have y2:=vv.c2;have y3:=vv.c3;have y4:=vv.c4;have y5:=vv.c5;have y6:=vv.c6;go_simp;exact gl
   try simp only[pu,s0,s1]
   apply rV;. intros;apply ol;go_simp;exact gl
   apply rV;. intro w' hg _;apply ol;have hw:=hW.drew.grown hg;have y0:=hw.at0 0 rfl;go_simp;exact gl
   apply rV;. intro w' hg _;apply ol;go_simp;exact cb (hsl _)
   apply rV;. intro w' hg _;apply ol;have hm:=(mW.below ((Below.refl _ _).drew)).below hg;go_simp;exact cc (hpk _ hm)
   apply rV;. intro w' hg _;apply ol;go_simp;exact cb (hsw _)
   apply rV;. intros;apply ol;go_simp;exact gl
   try simp only[pu,s0,s1]
   apply rV (c:=iV ((a+1:Nat):Int));. intro w' hg _;apply ol;go_simp;exact⟨Grown.refl _,congrArg (Value.int .i64) (by rw[IntKind.wrap_i64];omega)⟩
   apply rV;. intro w' hg _;apply ol;have hm:=(mW.below ((Below.refl _ _).drew)).below hg;go_simp;exact cc (hp2 _ hm)
   apply rV;. intro w' hg _;apply ol;go_simp;exact cb (hcl _)
   apply rV;. intros;apply ol;go_simp;exact gl
   apply XB;. intros;apply ol;go_simp;exact gl
   try simp only[pu,s0,s1]
   intro w5 hg _
   have g5:Below W.heap.size W w5:=grow ((Below.refl _ _).drew) hg
   have v5:=vW.grown g5
   have m5:=mW.below g5
   have l5:=lW.grown g5
   have b5:=grow bW g5
   have l0:=l5.at0 0 rfl
   have l1:=l5.at0 1 rfl
   clear vW mW lW hW bW hg
   by_cases hgn:4294967296<=lk
   . rw[show YD lk=true from decide_eq_true hgn] at l1
     have S2:Hid (NZ (h.ky hd) h.lk hd (A ++ [c]) B' kk):=HS.out.skip (by rw[iT.out];exact hgn)
     clear hgn
     go_wp2
     go_roundw
     case rel=>exact⟨A ++ [c],B',kk,by rw[yx.out],rfl,by rw[List.length_append];go_num,by rw[HF.out];simp,S2.out,v5,m5,b5⟩
     case measure=>simp[intOf];omega
   . rw[show YD lk=false from decide_eq_false hgn] at l1
     obtain⟨x1,x2,x3,x4⟩:=HS.out.next (by rw[iT.out];omega)
     obtain⟨kc,hkc,zc,hlt⟩:=HZ.out.1 c (by rw[HF.out];simp) (by rw[HF.out];exact x2) (by omega)
     have XH:Hid (kk<=kc/\(∀ i:Nat,kk<=i->i<kc->z i=false)/\z kc=true/\kc<ln/\NZ (h.ky hd) h.lk hd (A ++ [c]) B' (kc+1)):=⟨by omega,fun i h1 h2=>(HZ.out.2 i (fun hI=>x3 i (by omega) (by omega) (by rw[<- HF.out];exact hI))).resolve_right (by omega),zc,hlt,x4 kc hkc.symm⟩
     have iQ:ky=(kc:Int):=by rw[<- iR.out];exact hkc
     rw[iQ]
     clear x1 x2 x3 x4 zc hkc hlt hgn iQ
     go_wp2
     go_loopw [8] (fun kv wr=>∃ k':Nat,kv=iV k'/\kk<=k'/\k'<=kc/\ZP wr w.heap.size 4 n 12 40 100 600 3 L.p who/\Z5 wr L s/\Below w.heap.size w wr) (fun kv _=>100 - (intOf kv).toNat)
     case atStart=>exact⟨kk,rfl,Nat.le_refl _,XH.out.1,v5,m5,b5⟩
     case round =>
      clear v5 m5 b5 l5 l0 l1
      obtain⟨k',rfl,hk1,hk2,v6,m6,b6⟩:=hrel
      have hkl:(k':Int)<(ln:Int):=by have:=XH.out.2.2.2.1;omega
      have cI:wr.cell? ⟨bI,k',none⟩=some (.bool (z k')):=keep' b6 (rF.out k' (by omega))
      by_cases hlt:k'<kc
      . rw[XH.out.2.1 k' hk1 hlt] at cI
        go_wp2
        go_roundw
        case rel=>exact⟨k'+1,by go_num,by omega,by omega,v6,m6,b6⟩
        case measure=>simp[intOf];omega
      . obtain rfl:k'=kc:=by omega
        rw[XH.out.2.2.1] at cI
        have S2:Hid (NZ (h.ky hd) h.lk hd (A ++ [c]) B' (k'+1)):=XH.out.2.2.2.2
        clear XH hlt hk1 hk2
        go_wp2
        go_roundw
        case rel=>exact⟨A ++ [c],B',k'+1,by rw[yx.out],by go_num,by rw[List.length_append];go_num,by rw[HF.out];simp,S2.out,v6,m6,b6⟩
        case measure=>simp[intOf];omega
end
section
theorem qY:∃ i0,Tryz.prog.info? 4=some i0/\i0.zero=some (.bool false)/\i0.size=1/\i0.bytes=1:=by
 have h:(Tryz.prog.info? 4).map (fun i=>(i.zero,i.size,i.bytes))=some (some (.bool false),1,1):=by kernel_rfl
 cases e:Tryz.prog.info? 4 with
 | none=>rw[e] at h;cases h
 | some i =>
  rw[e] at h
  simp only[Option.map_some,Option.some.injEq,Prod.mk.injEq] at h
  exact⟨i,rfl,h.1,h.2.1,h.2.2⟩
theorem DR {w w':World} (h:w.grownBy w' none):Grown w w':=⟨h.os,h.tape,h.output,h.size,fun k hk=>h.block k hk (by simp)⟩
structure Bz (w:World) (B ln:Nat) (z:Nat->Bool):Prop where
 ex:∃ c,w.heap[B]?=some (.cells c 4 (0,0))/\ln<=c.size/\∀ i,i<ln->c[i]?=some (.bool (z i))
namespace Bz
variable {w w':World} {B ln:Nat} {z:Nat->Bool}
theorem lt (h:Bz w B ln z):B<w.heap.size:=by obtain⟨c,k,-⟩:=h.ex;exact X8 k
theorem cell (h:Bz w B ln z) {i:Nat} (hi:i<ln):w.cell? ⟨B,i,none⟩=some (.bool (z i)):=by
 obtain⟨c,k,-,k2⟩:=h.ex;exact ZX k (k2 i hi)
theorem fz (h:Bz w B ln z) (i:Nat):w.frozen? ⟨B,i,none⟩=false:=by obtain⟨c,k,-⟩:=h.ex;exact Y0 k i
theorem of_block (h:Bz w B ln z) (e:w'.heap[B]?=w.heap[B]?):Bz w' B ln z:=⟨h.ex.imp fun _ k=>⟨e.trans k.1,k.2⟩⟩
theorem grown (h:Bz w B ln z) (g:Below w.heap.size w w'):Bz w' B ln z:=h.of_block (g.block _ h.lt)
theorem set (h:Bz w B ln z) {j:Nat} (hj:j<ln) (v:Bool):Bz (w.setCell ⟨B,j,none⟩ (.bool v)) B ln (upd z j v):=by
 obtain⟨c,k,k1,k2⟩:=h.ex
 refine⟨⟨c.setIfInBounds j (.bool v),ZV _ _ _ _ _ _ k,by simpa using k1,fun i hi=>?_⟩⟩
 by_cases e:i=j
 . subst e
   rw[upd_same,Array.getElem?_setIfInBounds_self_of_lt (by omega)]
 . rw[Z9 _ _ _ _ e,Array.getElem?_setIfInBounds_ne (fun e'=>e e'.symm)];exact k2 i hi
theorem made {base:Nat} {B ln:Nat} (h:w.ownsRow base 4 1 (.slice (some ⟨B,0,none⟩) ln ln) ln (madeCells #[.bool false] (ln * 1)).toList) (h0:0<ln):Bz w B ln (fun _=>false):=by
 rcases h.2 with⟨_,h2⟩ | ⟨g',cap',cur,h',hb,hg',hcap,hmax,hsz,htake⟩
 . omega
 . cases h'
   refine⟨⟨cur,hg',by omega,fun i hi=>?_⟩⟩
   have e1:cur.toList[i]?=(madeCells #[.bool false] (ln * 1)).toList[i]?:=by
    rw[<- htake,List.getElem?_take,if_pos (by omega)]
   rw[Array.getElem?_toList] at e1
   rw[e1,Array.getElem?_toList]
   unfold madeCells
   rw[Array.getElem?_map,Array.getElem?_range,if_pos (by omega)]
   simp[Nat.mod_one]
end Bz
section
variable {n J M:Nat} {L:Loc} {w w':World} {z:Nat->Bool}
end
end
end Go.Proofs.YtpbghmeikcphnaaGreat
