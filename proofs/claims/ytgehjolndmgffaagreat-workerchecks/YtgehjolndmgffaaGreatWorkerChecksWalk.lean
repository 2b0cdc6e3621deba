import Derived.Test.YtgehjolndmgffaaGreatWrkLeaf
import Derived.Test.YtgehjolndmgffaaGreatWrkAwake
import Derived.Test.YtgehjolndmgffaaGreatPlaceSee
import Derived.Deep.CutRange
namespace Go.Proofs.YtgehjolndmgffaaGreat
open Go.RowKit
section
def wz (x:Int):Prop:=0<=x/\x<=18446744073709551615
def AA (c:Wc):Prop:=Fit c.kd/\Fit c.sz/\Fit c.rt/\Fit c.ra/\wz c.rr/\Fit c.ix/\Fit c.vl/\Fit c.ol/\Fit c.ky
end
section
def GX (me:Int) (N:Nat) (bad:Bool):Bool:=decide (0<=me) && decide (me<8) && decide (N<=64) && !bad
theorem Nj {w:World} {sp:Option Addr} {n:Nat} {cv:Value} {cs:List Wc} (me:Int) (hc:Sl w 45 9 cv (cs.map Wc.l)) (hs:yO w sp n) {gd:Bool} (hg:GX me cs.length (cs.any (Wc.bad n))=gd):Calls Tryz.prog 8 #[.int .i64 me,cv,.pointer sp] w fun e w'=>∃ (p:Option Addr) (E:Int),e=.returned (.tuple #[.pointer p,.int .i64 E])/\(E == 0)=gd/\(∀ w,(binOp .neq 31 (.pointer p) (.pointer none)).run Tryz.prog w=.ok (.bool gd) w)/\Below w.heap.size w w':=by
 have no:gd=false->∀ w',Below w.heap.size w w'->∃ (p:Option Addr) (E:Int),Ending.returned (.tuple #[.pointer none,.int .i64 1])=.returned (.tuple #[.pointer p,.int .i64 E])/\(E == 0)=gd/\(∀ w,(binOp .neq 31 (.pointer p) (.pointer none)).run Tryz.prog w=.ok (.bool gd) w)/\Below w.heap.size w w':=by
  rintro rfl w' g
  exact⟨none,1,rfl,rfl,fun w=>by kernel_rfl,g⟩
 by_cases hm:me<0\/8<=me
 . have hgd:gd=false:=by
    rw[<- hg];unfold GX
    rcases hm with hm | hm
    . rw[decide_eq_false (by omega:¬ 0<=me)];rfl
    . rw[decide_eq_false (by omega:¬ me<8),Bool.and_false];rfl
   refine(BD me hm cv sp w).mono ?_
   rintro e w' ⟨rfl,rfl⟩
   exact no hgd _ (Below.refl _ _)
 . have hm2:0<=me/\me<8:=by omega
   by_cases hl:cs.length<=64
   . cases hb:cs.any (Wc.bad n) with
     | true =>
      have hgd:gd=false:=by rw[<- hg];unfold GX;rw[hb];simp
      refine(Et me hm2 hc hl hs hb).mono ?_
      rintro e w' ⟨rfl,g⟩
      exact no hgd _ g
     | false =>
      have hgd:gd=true:=by rw[<- hg];unfold GX;rw[hb,decide_eq_true hm2.1,decide_eq_true hm2.2,decide_eq_true hl];rfl
      refine(Qa me hm2 hc hl hs hb).mono ?_
      rintro e w' ⟨B,rfl,-,g⟩
      subst hgd
      exact⟨_,0,rfl,rfl,fun w=>by kernel_rfl,g⟩
   . have hgd:gd=false:=by rw[<- hg];unfold GX;rw[decide_eq_false hl];simp
     obtain⟨a,cap,rfl,-⟩:=hc.is
     have hlen:(cs.map Wc.l).length=cs.length:=by simp
     refine(GV me hm2 a _ cap (by rw[hlen];omega) sp w).mono ?_
     rintro e w' ⟨rfl,rfl⟩
     exact no hgd _ (Below.refl _ _)
theorem OW (f:Wc->Bool) (c:Wc):∀ n:Nat,(List.replicate n c).any f=(!decide (n=0) && f c)
 | 0=>rfl
 | n+1=>by
  rw[List.replicate_succ,List.any_cons,OW f c n]
  cases f c <;> simp
theorem Jv (c:Wc):c.may=((decide (1<=c.kd) && decide (c.kd<=5) && (fitsV c.vl && fitsV c.ol)) || (decide (6<=c.kd) && decide (c.kd<=8) && decide (0<=c.ky) && decide (c.ky<1073741824))):=by
 unfold Wc.may
 cases hk:c.asks with
 | true =>
  unfold Wc.asks at hk
  simp only[Bool.and_eq_true,decide_eq_true_eq] at hk
  rw[if_pos rfl]
  unfold V4
  rw[decide_eq_false (by omega:¬ c.kd<=5),decide_eq_true hk.1,decide_eq_true hk.2,decide_eq_true (by omega:1<=c.kd - 5),decide_eq_true (by omega:c.kd - 5<=3)]
  simp
 | false =>
  have hk2:(decide (6<=c.kd) && decide (c.kd<=8))=false:=hk
  rw[hk2,if_neg (by decide)]
  show (decide (1<=c.kd) && decide (c.kd<=5) && fitsV c.vl && fitsV c.ol)=_
  simp[Bool.and_assoc]
theorem sJ (c:Wc) (hm:c.may=true):c.bad 0=!decide (c.kd<6):=by
 unfold Wc.bad
 rw[hm]
 have:c.asks=!decide (c.kd<6):=by
  rw[Jv] at hm
  unfold Wc.asks
  by_cases h6:c.kd<6
  . rw[decide_eq_false (by omega:¬ 6<=c.kd),decide_eq_true h6];rfl
  . have h8:c.kd<=8:=by
     rw[decide_eq_false (by omega:¬ c.kd<=5)] at hm
     simp at hm
     omega
    rw[decide_eq_true (by omega:6<=c.kd),decide_eq_true h8,decide_eq_false h6];rfl
 rw[this]
 simp
theorem sH (c:Wc):c.bad 3=!c.may:=by
 unfold Wc.bad
 rw[decide_eq_false (by decide:¬ (3=0))]
 simp
theorem BC (c:Wc) (n:Nat) (hm:c.may=false):c.bad n=true:=by unfold Wc.bad;rw[hm];rfl
theorem BG (me:Int) (N:Nat) (c:Wc):GX me N ((List.replicate N c).any (Wc.bad 3))=(decide (0<=me) && decide (me<8) && decide (N<=64) && (c.may || decide (N=0))):=by
 unfold GX
 rw[OW,sH]
 cases c.may <;> cases decide (N=0) <;> simp
theorem BF (me:Int) (N:Nat) (c:Wc):GX me N ((List.replicate N c).any (Wc.bad 0))=(decide (0<=me) && decide (me<8) && decide (N<=64) && (c.may || decide (N=0)) && (decide (c.kd<6) || decide (N=0))):=by
 unfold GX
 rw[OW]
 cases hm:c.may with
 | true =>
  rw[sJ c hm]
  cases decide (c.kd<6) <;> cases decide (N=0) <;> simp
 | false =>
  rw[BC c 0 hm]
  cases decide (c.kd<6) <;> cases decide (N=0) <;> simp
end
section
set_option maxRecDepth 20000 in
set_option maxHeartbeats 8000000 in
theorem TQ (me:Int) (c:Wc) (many:Int) (w:World):Calls Tryz.prog 4 #[.int .i64 me,c.v,.int .i64 many] w fun e w'=>e=.returned (.bool true)/\Below w.heap.size w w':=by
 obtain⟨N,eN,hN⟩:=uu many 127 7 (by decide) (by decide)
 have x0:=OX.new c w
 have g0:=ZZ w (.cells #[.int .i64 c.kd,.int .i64 c.sz,.int .i64 c.rt,.int .i64 c.ra,.int .u64 c.rr,.int .i64 c.ix,.int .i64 c.vl,.int .i64 c.ol,.int .i64 c.ky] 45)
 have t0:=(x0).at0 0 rfl
 have t1:=(x0).at0 1 rfl
 have t2:=(x0).at0 2 rfl
 have t3:=(x0).at0 3 rfl
 have t4:=(x0).at0 4 rfl
 have t5:=(x0).at0 5 rfl
 have t6:=(x0).at0 6 rfl
 have t7:=(x0).at0 7 rfl
 have t8:=(x0).at0 8 rfl
 have hbg:=fun w=>Qb w
 have vT:=fun w=>QX c w
 obtain⟨V,hV⟩:∃ V,(fitsV c.vl && fitsV c.ol)=V:=⟨_,rfl⟩
 obtain⟨Y,hY⟩:∃ Y,c.may=Y:=⟨_,rfl⟩
 have yP:=Jv c
 rw[hV,hY] at yP
 rw[hY] at vT
 obtain⟨gd,hgd⟩:∃ gd,(decide (0<=me) && decide (me<8) && decide (N<=64) && (Y || decide (N=0)))=gd:=⟨_,rfl⟩
 obtain⟨br,hbr⟩:∃ br,(gd && (decide (c.kd<6) || decide (N=0)))=br:=⟨_,rfl⟩
 have hg3:GX me (List.replicate N c).length ((List.replicate N c).any (Wc.bad 3))=gd:=by rw[List.length_replicate,BG,hY];exact hgd
 have hg0:GX me (List.replicate N c).length ((List.replicate N c).any (Wc.bad 0))=br:=by rw[List.length_replicate,BF,hY,hgd];exact hbr
 have HX:Hid (At (w.alloc (.cells #[.int .i64 c.kd,.int .i64 c.sz,.int .i64 c.rt,.int .i64 c.ra,.int .u64 c.rr,.int .i64 c.ix,.int .i64 c.vl,.int .i64 c.ol,.int .i64 c.ky] 45)) w.heap.size 0 45 #[.int .i64 c.kd,.int .i64 c.sz,.int .i64 c.rt,.int .i64 c.ra,.int .u64 c.rr,.int .i64 c.ix,.int .i64 c.vl,.int .i64 c.ol,.int .i64 c.ky] c.l/\Below w.heap.size w (w.alloc (.cells #[.int .i64 c.kd,.int .i64 c.sz,.int .i64 c.rt,.int .i64 c.ra,.int .u64 c.rr,.int .i64 c.ix,.int .i64 c.vl,.int .i64 c.ol,.int .i64 c.ky] 45))):=⟨x0,g0⟩
 have HL:Hid ((fitsV c.vl && fitsV c.ol)=V/\Y=((decide (1<=c.kd) && decide (c.kd<=5) && V) || (decide (6<=c.kd) && decide (c.kd<=8) && decide (0<=c.ky) && decide (c.ky<1073741824)))):=⟨hV,yP⟩
 have Eu:Hid ((decide (0<=me) && decide (me<8) && decide (N<=64) && (Y || decide (N=0)))=gd/\(gd && (decide (c.kd<6) || decide (N=0)))=br/\(N:Int)<=127):=⟨hgd,hbr,hN⟩
 have HG:Hid (GX me (List.replicate N c).length ((List.replicate N c).any (Wc.bad 3))=gd/\GX me (List.replicate N c).length ((List.replicate N c).any (Wc.bad 0))=br):=⟨hg3,hg0⟩
 clear hV yP hgd hbr hN hg3 hg0 x0 g0 hY
 go_enter Tryz.func4,Tryz.ntmps4
 go_upto_region 1 with fail
 go_cut [7] from 20 to 37 (fun v7 wx=>v7=.bool V/\wx=w.alloc (.cells #[.int .i64 c.kd,.int .i64 c.sz,.int .i64 c.rt,.int .i64 c.ra,.int .u64 c.rr,.int .i64 c.ix,.int .i64 c.vl,.int .i64 c.ol,.int .i64 c.ky] 45))
 case first =>
  have hV:=HL.out.1
  unfold fitsV at hV
  by_cases h1:0<=c.vl
  . by_cases h2:c.vl<=1099511627775
    . by_cases h3:0<=c.ol
      . by_cases h4:c.ol<=1099511627775
        . rw[decide_eq_true h1,decide_eq_true h2,decide_eq_true h3,decide_eq_true h4] at hV
          have HV:Hid (true=V):=hV
          clear hV
          go_wp2
          go_meet
          exact⟨congrArg Value.bool HV.out,rfl⟩
        . rw[decide_eq_true h1,decide_eq_true h2,decide_eq_true h3,decide_eq_false h4] at hV
          have HV:Hid (false=V):=hV
          clear hV
          go_wp2
          go_meet
          exact⟨congrArg Value.bool HV.out,rfl⟩
      . rw[decide_eq_false h3,Bool.false_and,Bool.and_false] at hV
        have HV:Hid (false=V):=hV
        clear hV
        go_wp2
        go_meet
        exact⟨congrArg Value.bool HV.out,rfl⟩
    . rw[decide_eq_false h2,Bool.and_false,Bool.false_and] at hV
      have HV:Hid (false=V):=hV
      clear hV
      go_wp2
      go_meet
      exact⟨congrArg Value.bool HV.out,rfl⟩
  . rw[decide_eq_false h1,Bool.false_and,Bool.false_and] at hV
    have HV:Hid (false=V):=hV
    clear hV
    go_wp2
    go_meet
    exact⟨congrArg Value.bool HV.out,rfl⟩
 case rest =>
 obtain⟨rfl,rfl⟩:=hcut
 go_upto_region 2 with fail
 go_cut [8] from 38 to 68 (fun v8 wx=>v8=.bool Y/\wx=w.alloc (.cells #[.int .i64 c.kd,.int .i64 c.sz,.int .i64 c.rt,.int .i64 c.ra,.int .u64 c.rr,.int .i64 c.ix,.int .i64 c.vl,.int .i64 c.ol,.int .i64 c.ky] 45))
 case first =>
  by_cases h1:1<=c.kd
  . by_cases h5:c.kd<=5
    . have h6:¬ 6<=c.kd:=by omega
      cases V with
      | true =>
       have hY:=HL.out.2.trans (by simp[h1,h5]:_=true)
       have HV:Hid (true=Y):=hY.symm
       clear hY
       go_wp2
       go_meet
       exact⟨congrArg Value.bool HV.out,rfl⟩
      | false =>
       have hY:=HL.out.2.trans (by simp[h6]:_=false)
       have HV:Hid (false=Y):=hY.symm
       clear hY
       go_wp2
       go_meet
       exact⟨congrArg Value.bool HV.out,rfl⟩
    . have h6:6<=c.kd:=by omega
      by_cases h8:c.kd<=8
      . by_cases hk0:0<=c.ky
        . by_cases hk1:c.ky<1073741824
          . have hk2:decide (c.ky<1073741824)=true:=decide_eq_true hk1
            have hY:=HL.out.2.trans (by simp[h6,h8,hk0,hk1]:_=true)
            have HV:Hid (true=Y):=hY.symm
            clear hY
            go_wp2
            go_meet
            exact⟨congrArg Value.bool HV.out,rfl⟩
          . have hk2:decide (c.ky<1073741824)=false:=decide_eq_false hk1
            have hY:=HL.out.2.trans (by simp[h5,hk1]:_=false)
            have HV:Hid (false=Y):=hY.symm
            clear hY
            go_wp2
            go_meet
            exact⟨congrArg Value.bool HV.out,rfl⟩
        . have hY:=HL.out.2.trans (by simp[h5,hk0]:_=false)
          have HV:Hid (false=Y):=hY.symm
          clear hY
          go_wp2
          go_meet
          exact⟨congrArg Value.bool HV.out,rfl⟩
      . have hY:=HL.out.2.trans (by simp[h5,h8]:_=false)
        have HV:Hid (false=Y):=hY.symm
        clear hY
        go_wp2
        go_meet
        exact⟨congrArg Value.bool HV.out,rfl⟩
  . have h6:¬ 6<=c.kd:=by omega
    have hY:=HL.out.2.trans (by simp[h1,h6]:_=false)
    have HV:Hid (false=Y):=hY.symm
    clear hY
    go_wp2
    go_meet
    exact⟨congrArg Value.bool HV.out,rfl⟩
 case rest =>
 obtain⟨rfl,rfl⟩:=hcut
 go_wp2_with (go_at_call 7;refine(hbg _).mono ?_;rintro e w1 ⟨L,bS,rfl,⟨Bs,σ,A,S,hσ,hL⟩,g1⟩)
 have S1:=S.grown (ZZ w1 (.cells #[.int .i64 1,.int .i64 30,.int .i64 16,.int .i64 40,.int .i64 100,.int .i64 600,.int .i64 3,.pointer (some ⟨L.p,0,none⟩),.int .i64 0] 27))
 have sO:Hid (At (w1.alloc (.cells #[.int .i64 1,.int .i64 30,.int .i64 16,.int .i64 40,.int .i64 100,.int .i64 600,.int .i64 3,.pointer (some ⟨L.p,0,none⟩),.int .i64 0] 27)) w.heap.size 0 45 #[.int .i64 c.kd,.int .i64 c.sz,.int .i64 c.rt,.int .i64 c.ra,.int .u64 c.rr,.int .i64 c.ix,.int .i64 c.vl,.int .i64 c.ol,.int .i64 c.ky] c.l/\Below w.heap.size w (w1.alloc (.cells #[.int .i64 1,.int .i64 30,.int .i64 16,.int .i64 40,.int .i64 100,.int .i64 600,.int .i64 3,.pointer (some ⟨L.p,0,none⟩),.int .i64 0] 27))):=⟨(HX.out.1.grown g1).grown (ZZ w1 (.cells #[.int .i64 1,.int .i64 30,.int .i64 16,.int .i64 40,.int .i64 100,.int .i64 600,.int .i64 3,.pointer (some ⟨L.p,0,none⟩),.int .i64 0] 27)),grow HX.out.2 (grow g1 (ZZ w1 (.cells #[.int .i64 1,.int .i64 30,.int .i64 16,.int .i64 40,.int .i64 100,.int .i64 600,.int .i64 3,.pointer (some ⟨L.p,0,none⟩),.int .i64 0] 27)))⟩
 have hs1:w.heap.size<(w1.alloc (.cells #[.int .i64 1,.int .i64 30,.int .i64 16,.int .i64 40,.int .i64 100,.int .i64 600,.int .i64 3,.pointer (some ⟨L.p,0,none⟩),.int .i64 0] 27)).heap.size:=sO.out.1.lt
 have z2:(w1.alloc (.cells #[.int .i64 1,.int .i64 30,.int .i64 16,.int .i64 40,.int .i64 100,.int .i64 600,.int .i64 3,.pointer (some ⟨L.p,0,none⟩),.int .i64 0] 27)).heap.size=w1.heap.size+1:=Go.Deep.nblk_alloc _ _
 clear A S hσ hL HX
 generalize (w1.alloc (.cells #[.int .i64 1,.int .i64 30,.int .i64 16,.int .i64 40,.int .i64 100,.int .i64 600,.int .i64 3,.pointer (some ⟨L.p,0,none⟩),.int .i64 0] 27))=w2 at *
 go_loopw [12,13] (fun lv iv wr=>∃ i:Nat,iv=.int .i64 i/\i<=N/\Sl wr 45 9 lv ((List.replicate i c).map Wc.l)/\(∀ k,lv.ownBlock=some k->w2.heap.size<=k)/\Below w2.heap.size w2 wr) (fun _ iv _=>200 - (intOf iv).toNat)
 case atStart=>exact⟨0,rfl,Nat.zero_le _,Or.inr ⟨w1.heap.size+1,0,rfl,by rw[<- z2];exact Rz.fresh _ _ _⟩,fun k hk=>(by cases hk;show w2.heap.size<=w1.heap.size+1;omega),ZZ _ _⟩
 case round =>
  clear z2
  obtain⟨i,rfl,hi,hs,ho,g⟩:=hrel
  have x2:=sO.out.1.grown g
  have t0:=(x2).at0 0 rfl
  have t1:=(x2).at0 1 rfl
  have t2:=(x2).at0 2 rfl
  have t3:=(x2).at0 3 rfl
  have t4:=(x2).at0 4 rfl
  have t5:=(x2).at0 5 rfl
  have t6:=(x2).at0 6 rfl
  have t7:=(x2).at0 7 rfl
  have t8:=(x2).at0 8 rfl
  by_cases hlt:i<N
  . have h1:(i:Int)<(N:Int):=by omega
    have HI:Hid (i<N/\(N:Int)<=127):=⟨hlt,Eu.out.2.2⟩
    have aC:=At.new wr 45 c.l
    have gC:=ZZ wr (.cells #[.int .i64 c.kd,.int .i64 c.sz,.int .i64 c.rt,.int .i64 c.ra,.int .u64 c.rr,.int .i64 c.ix,.int .i64 c.vl,.int .i64 c.ol,.int .i64 c.ky] 45)
    obtain⟨v',w',hrun,hS,oS,nS⟩:=Sl.push (S:=22) Tryz.underlying22 Az rfl (by decide) (by decide) (hs.grown gC) wr.heap.size c.l rfl (fun u hu=>by simp only[Wc.l,List.mem_cons,List.not_mem_nil,or_false] at hu;rcases hu with rfl | rfl | rfl | rfl | rfl | rfl | rfl | rfl | rfl <;> rfl) (fun j u hu=>aC.at0 j hu) (by have:=HI.out;simp;omega) 22
    have hi9:(i:Int)<=127:=by have:=HI.out;omega
    clear hlt hi aC
    go_wp2_with (at_builtin;refine VP rfl (.tmp 81) (.tmp 83) rfl rfl rfl hrun ?_)
    go_roundw
    case rel =>
     have hsz:=g.size
     have sN:=gC.size
     refine⟨i+1,by go_num,HI.out.1,by rw[List.replicate_succ',List.map_append];exact hS,fun k hk=>?_,(grow g gC).trans (oS.below (Nat.le_trans hsz sN) (fun k hk hs=>absurd (ho k hs) (by omega)))⟩
     rcases nS k hk with h | h
     . exact ho k h
     . omega
    case measure=>have:=HI.out;simp[intOf];omega
  . have hiN:N=i:=by omega
    subst hiN
    have h1:¬ (N:Int)<(N:Int):=by omega
    have hlen:((List.replicate N c).map Wc.l).length=N:=by simp
    obtain⟨la,lc,e0,-⟩:=hs.is
    have eu:u12=.slice la N lc:=by rw[e0,hlen]
    clear e0
    subst eu
    have hn3:=Nj me hs (Or.inr ⟨bS,rfl,S1.sh.grown g⟩:yO wr (some ⟨bS,0,none⟩) 3) HG.out.1
    have hn0:=fun w3 (g3:Below wr.heap.size wr w3)=>Nj me (hs.grown g3) (Or.inl ⟨rfl,rfl⟩:yO w3 none 0) HG.out.2
    have HW:Hid (Below w.heap.size w wr/\At wr w.heap.size 0 45 #[.int .i64 c.kd,.int .i64 c.sz,.int .i64 c.rt,.int .i64 c.ra,.int .u64 c.rr,.int .i64 c.ix,.int .i64 c.vl,.int .i64 c.ol,.int .i64 c.ky] c.l):=⟨grow sO.out.2 g,x2⟩
    clear hs ho g x2 hi hlen
    go_upto_region 11 with(first
     | (go_at_call_of 8 (pP bS 0);refine hn3.mono ?_;rintro e w3 ⟨p3,E3,rfl,mF,hp3,g3⟩)
     | (go_at_call_of 8 (Value.pointer none);refine(hn0 _ g3).mono ?_;rintro e w4 ⟨p4,E4,rfl,mD,mr,g4⟩))
    have x4:=(HW.out.2.grown g3).grown g4
    have t0:=(x4).at0 0 rfl
    have t1:=(x4).at0 1 rfl
    have t2:=(x4).at0 2 rfl
    have t3:=(x4).at0 3 rfl
    have t4:=(x4).at0 4 rfl
    have t5:=(x4).at0 5 rfl
    have t6:=(x4).at0 6 rfl
    have t7:=(x4).at0 7 rfl
    have t8:=(x4).at0 8 rfl
    go_cut [18] from 98 to 116 (fun v18 wx=>v18=.bool gd/\w4=wx)
    case first =>
     by_cases h0:0<=me
     . by_cases h8:me<8
       . by_cases hN:(N:Int)<=64
         . have sK:N<=64:=by omega
           cases Y with
           | true =>
            have HV:Hid (true=gd):=(by show true=gd;rw[<- Eu.out.1];simp[h0,h8,sK])
            go_wp2
            go_meet
            exact⟨congrArg Value.bool HV.out,rfl⟩
           | false =>
            by_cases hz:N=0
            . subst hz
              have HV:Hid (true=gd):=(by show true=gd;rw[<- Eu.out.1];simp[h0,h8])
              go_wp2
              go_meet
              exact⟨congrArg Value.bool HV.out,rfl⟩
            . have hz2:((N:Int) == 0)=false:=by simp;omega
              have HV:Hid (false=gd):=(by show false=gd;rw[<- Eu.out.1];simp[hz])
              go_wp2
              go_meet
              exact⟨congrArg Value.bool HV.out,rfl⟩
         . have sK:¬ N<=64:=by omega
           have HV:Hid (false=gd):=(by show false=gd;rw[<- Eu.out.1];simp[sK])
           go_wp2
           go_meet
           exact⟨congrArg Value.bool HV.out,rfl⟩
       . have HV:Hid (false=gd):=(by show false=gd;rw[<- Eu.out.1];simp[h8])
         go_wp2
         go_meet
         exact⟨congrArg Value.bool HV.out,rfl⟩
     . have HV:Hid (false=gd):=(by show false=gd;rw[<- Eu.out.1];simp[h0])
       go_wp2
       go_meet
       exact⟨congrArg Value.bool HV.out,rfl⟩
    case rest =>
    obtain⟨rfl,rfl⟩:=hcut
    go_upto_region 12 with fail
    go_cut [19] from 117 to 127 (fun v19 wx=>v19=.bool br/\w4=wx)
    case first =>
     cases gd with
     | true =>
      by_cases h6:c.kd<6
      . have mi:¬ 6<=c.kd:=by omega
        have HV:Hid (true=br):=(by show true=br;rw[<- Eu.out.2.1];simp[h6])
        go_wp2
        go_meet
        exact⟨congrArg Value.bool HV.out,rfl⟩
      . by_cases hz:N=0
        . subst hz
          have HV:Hid (true=br):=(by show true=br;rw[<- Eu.out.2.1];simp[h6])
          go_wp2
          go_meet
          exact⟨congrArg Value.bool HV.out,rfl⟩
        . have hz2:((N:Int) == 0)=false:=by simp;omega
          have HV:Hid (false=br):=(by show false=br;rw[<- Eu.out.2.1];simp[h6,hz])
          go_wp2
          go_meet
          exact⟨congrArg Value.bool HV.out,rfl⟩
     | false =>
      have HV:Hid (false=br):=(by show false=br;rw[<- Eu.out.2.1];simp[])
      go_wp2
      go_meet
      exact⟨congrArg Value.bool HV.out,rfl⟩
    case rest =>
    obtain⟨rfl,rfl⟩:=hcut
    go_wp2_with (first
     | (go_at_call 10;refine(Nh _).mono ?_;rintro e w5 ⟨rfl,g5⟩;have x5:=x4.grown g5;have t0:=(x5).at0 0 rfl;have t1:=(x5).at0 1 rfl;have t2:=(x5).at0 2 rfl;have t3:=(x5).at0 3 rfl;have t4:=(x5).at0 4 rfl;have t5:=(x5).at0 5 rfl;have t6:=(x5).at0 6 rfl;have t7:=(x5).at0 7 rfl;have t8:=(x5).at0 8 rfl)
     | (go_at_call 16;refine(vT _).mono ?_;rintro e w6 ⟨rfl,g6⟩))
    go_ret
    exact⟨rfl,grow HW.out.1 (grow g3 (grow g4 (grow g5 g6)))⟩
end
end Go.Proofs.YtgehjolndmgffaaGreat
