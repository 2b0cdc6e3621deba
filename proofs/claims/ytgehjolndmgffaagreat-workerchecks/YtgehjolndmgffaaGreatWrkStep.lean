import Derived.Test.YtgehjolndmgffaaGreatAbb
import Derived.Test.YtgehjolndmgffaaGreatRows
import Derived.Test.YtgehjolndmgffaaGreatLay
import Derived.Conc.LoneCalls
import Derived.Conc.LoneSelect
import Derived.Conc.LoneSelectN
import Derived.Test.YtgehjolndmgffaaGreatWrkNot
namespace Go.Proofs.YtgehjolndmgffaaGreat
open Go.RowKit
section
open Go.RowKit Go.Conc
structure Q4 where
 p:Nat
 c:Nat
def Q4.has (L:Q4) (k:Nat):Prop:=k=L.c
def XI (l:List Int):Array Value:=(l.map (Value.int .i64)).toArray
theorem U5 (l:List Int):(XI l).size=l.length:=by simp[XI]
theorem KH (l:List Int) (x:Int):(XI l).push (iV x)=XI (l ++ [x]):=by simp[XI]
theorem Hg (l:List Int) (x:Int):(XI (x :: l)).extract 1 (XI (x :: l)).size=XI l:=by
 simp only[U5,List.length_cons]
 simp[XI,List.take_of_length_le]
theorem Ns (l:List Int) (x:Int):(XI (x :: l)).getD 0 undef=iV x:=by simp[XI]
structure Y6 (w:World) (L:Q4) (m:Nat) (l:List Int):Prop where
 obj:w.heap[L.p]?=some (.cells #[.chan (some L.c),iV m] 89 (0,0))
 ch:∃ s r,w.heap[L.c]?=some (.chan m (XI l) false s r false)
 d:L.p≠L.c
 most:m<=256
 len:l.length<=m
namespace Y6
variable {w w':World} {L:Q4} {m:Nat} {l:List Int}
theorem c0 (h:Y6 w L m l):w.cell? ⟨L.p,0,none⟩=some (.chan (some L.c)):=ZW h.obj rfl
theorem AB (h:Y6 w L m l):L.p<w.heap.size:=XP h.obj
theorem Gt (h:Y6 w L m l):L.c<w.heap.size:=by obtain⟨s,r,e⟩:=h.ch;exact XP e
theorem only {S:Nat->Prop} (h:Y6 w L m l) (o:Only S w w') (hp:¬ S L.p) (hc:¬ S L.c):Y6 w' L m l :=
 ⟨(o.block _ h.AB hp).trans h.obj,by obtain⟨s,r,e⟩:=h.ch;exact⟨s,r,(o.block _ h.Gt hc).trans e⟩,h.d,h.most,h.len⟩
theorem below (h:Y6 w L m l) (b:Below w.heap.size w w'):Y6 w' L m l :=
 h.only (Only.O9 b) (by have:=h.AB;omega) (by have:=h.Gt;omega)
theorem put (h:Y6 w L m l) (l':List Int) (hl:l'.length<=m) (s r:Nat):Y6 (w.setChan L.c m (XI l') false s r false) L m l' :=
 ⟨by rw[show (w.setChan L.c m (XI l') false s r false).heap[L.p]?=w.heap[L.p]? by simp[World.setChan,Array.getElem?_setIfInBounds_ne h.d.symm]];exact h.obj,
  ⟨s,r,heap_setChan _ _ _ _ _ _ _ _ h.Gt⟩,h.d,h.most,hl⟩
end Y6
theorem Uy (w:World) (L:Q4) (m:Nat) (b:Array Value) (s r:Nat):Only L.has w (w.setChan L.c m b false s r false) :=
 ⟨rfl,rfl,rfl,by simp[World.setChan],fun k _ hs=>by
  simp only[World.setChan];exact Array.getElem?_setIfInBounds_ne (fun e=>hs e.symm)⟩
theorem EE:∃ i,Tryz.prog.info? 3=some i/\i.bytes=8:=by
 have h:(Tryz.prog.info? 3).map (·.bytes)=some 8:=by kernel_rfl
 obtain⟨i,hi,hb⟩:=Option.map_eq_some_iff.1 h
 exact⟨i,hi,hb⟩
theorem yS (n:Nat) (hn:n<=256) (w:World):(Instr.makeChan 87 (iV n)).run Tryz.prog w=.ok (.chan (some w.heap.size)) (w.alloc (.chan n #[] false 0 0 false)):=by
 obtain⟨i,hi,hb⟩:=EE
 simpa using run_makeChan (P:=Tryz.prog) (w:=w) Tryz.underlying87 hi .i64 n (by omega) (by rw[hb];omega)
theorem BN (n:Nat) (h1:1<=n) (h2:n<=256) (w:World) :
 Calls Tryz.prog 24 #[iV n] w fun e w'=>∃ L:Q4,e=.returned (.tuple #[pP L.p 0,iV 0])/\Y6 w' L n []/\Below w.heap.size w w'/\w.heap.size<=L.c/\w.heap.size<=L.p:=by
 have hm:=yS n h2
 go_enter Tryz.func24,Tryz.ntmps24
 go_wp2
 go_ret2
 refine⟨⟨w.heap.size+1,w.heap.size⟩,rfl,⟨?_,⟨0,0,?_⟩,by simp,h2,by simp⟩,((Below.refl _ _).alloc (Nat.le_refl _) _).alloc (by simp) _,Nat.le_refl _,Nat.le_succ _⟩
 . have e:=Go.Deep.blk_alloc_new (w.alloc (.chan n #[] false 0 0 false)) (.cells #[.chan (some w.heap.size),iV n] 89)
   simpa only [Go.Deep.nblk_alloc] using e
 . rw[Go.Deep.blk_alloc_lt _ _ _ (by simp)]
   exact Go.Deep.blk_alloc_new w _
end
section
open Go.RowKit Go.Conc
set_option maxRecDepth 100000 in
theorem KG {w:World} {L:Q4} {m:Nat} {l:List Int} (h:Y6 w L m l) (x:Int) (hx:l.length<m) :
 Calls Tryz.prog 25 #[pP L.p 0,iV x] w fun e w'=>e=.returned (iV 0)/\Y6 w' L m (l ++ [x])/\Only L.has w w'/\w'.heap.size=w.heap.size:=by
 have k0:=h.c0
 obtain⟨s,r,k1⟩:=h.ch
 refine calls_of_loneTo fun cs=>?_
 have e:Frame.enter Tryz.prog 25 #[pP L.p 0,iV x] .normal=(Go.Conc.base 25).at ⟨#[pP L.p 0,iV x,undef,undef,undef,undef,undef,undef,undef,undef,undef,undef,undef,undef,undef],[]⟩ [.code (Tryz.f25.body.getD .skip)]:=by
  simp[Frame.enter,Frame.at,Tryz.func25,Go.Conc.base,Tryz.f25]
 rw[e]
 refine LoneTo.goes (n:=100) ?_
 simp only[Tryz.f25,Option.getD_some]
 repeat (first | s_c stepG_seq | s_reg | s_op | s_c stepG_region_end | s_c stepG_skip | s_c stepG_block | s_cond false)
 s_stop
 refine LoneTo.step (step_lone_select_send_room (c:=L.c) (v:=iV x) (z':=iV 0) (cap:=m) (buf:=XI l) (s:=s) (r:=r) (tm:=false)
  (stepG_comm (cases:=#[scase L.c (iV x) (iV 0)]) (blocking:=false) (shape:=.select) (w':=w) rfl rfl (by decide) (by simp[go_sem,execOp,scase,Act.eval])) k1 (by rw[U5];exact hx)) ?_
 rw[Frame.finish_at,KH]
 walk_nrm
 refine LoneTo.goes (n:=100) ?_
 repeat (first | s_op | s_c stepG_region_end | s_c stepG_block | s_cond true | s_c stepG_seq | s_reg | s_c stepG_ret')
 s_stop
 refine LoneTo.done ⟨.returned (iV 0),_,rfl,⟨rfl,h.put _ (by simp;omega) _ _,Uy _ _ _ _ _ _,by simp[World.setChan]⟩,rfl,rfl,rfl,rfl,_,Tryz.func25,by simp[results,Tryz.f25,Frame.at]⟩
set_option maxRecDepth 100000 in
theorem Hf {w:World} {L:Q4} {m:Nat} {l:List Int} {x:Int} (h:Y6 w L m (x :: l)) :
 Calls Tryz.prog 41 #[pP L.p 0] w fun e w'=>e=.returned (.tuple #[iV x,.bool true])/\Y6 w' L m l/\Only L.has w w'/\w'.heap.size=w.heap.size:=by
 have k0:=h.c0
 obtain⟨s,r,k1⟩:=h.ch
 refine calls_of_loneTo fun cs=>?_
 have e:Frame.enter Tryz.prog 41 #[pP L.p 0] .normal=(Go.Conc.base 41).at ⟨#[pP L.p 0,undef,undef,undef,undef,undef,undef,undef,undef,undef,undef,undef,undef,undef,undef,undef],[]⟩ [.code (Tryz.f41.body.getD .skip)]:=by
  simp[Frame.enter,Frame.at,Tryz.func41,Go.Conc.base,Tryz.f41]
 rw[e]
 refine LoneTo.goes (n:=100) ?_
 simp only[Tryz.f41,Option.getD_some]
 repeat (first | s_c stepG_seq | s_reg | s_op | s_c stepG_region_end | s_c stepG_skip | s_c stepG_block | s_cond false)
 s_stop
 refine LoneTo.step (step_lone_select_recv_buf (c:=L.c) (z:=iV 0) (cap:=m) (buf:=XI (x :: l)) (closed:=false) (s:=s) (r:=r) (tm:=false)
  (stepG_comm (cases:=#[rcase L.c (iV 0)]) (blocking:=false) (shape:=.select) (w':=w) rfl rfl (by decide) (by simp[go_sem,execOp,rcase,Act.eval])) k1 (by rw[U5];simp)) ?_
 rw[Frame.finish_at,Hg,Ns]
 walk_nrm
 refine LoneTo.goes (n:=100) ?_
 repeat (first | s_op | s_c stepG_region_end | s_c stepG_block | s_cond true | s_c stepG_seq | s_reg | s_c stepG_ret')
 s_stop
 refine LoneTo.done ⟨.returned (.tuple #[iV x,.bool true]),_,rfl,⟨rfl,h.put _ (by have:=h.len;simp at this;omega) _ _,Uy _ _ _ _ _ _,by simp[World.setChan]⟩,rfl,rfl,rfl,rfl,_,Tryz.func41,by simp[results,Tryz.f41,Frame.at]⟩
end
section
set_option maxHeartbeats 1000000
structure Td where
 th:Int
 at_:Int
 c:Wc
 hd:Int
 E:Int
 H:Int
 V:Int
 St:Int
 bg:Int
 en:Int
@[reducible] def Td.l (d:Td):List Value:=[iV d.th,iV d.at_,iV d.c.kd,iV d.c.sz,iV d.c.rt,iV d.c.ra,.int .u64 d.c.rr,iV d.c.ix,iV d.c.vl,iV d.c.ol,iV d.c.ky,.int .u64 d.hd,iV d.E,.int .u64 d.H,iV d.V,iV d.St,iV d.bg,iV d.en]
def qx:Td:=⟨0,0,⟨0,0,0,0,0,0,0,0,0⟩,0,0,0,0,0,0,0⟩
@[reducible] def Aw (me:Int) (cv:Value) (sp:Option Addr) (qp:Nat) (ob:Value) (d:Td) (tv:Value):List Value:=[iV me,cv,.pointer sp,pP qp 0,ob,iV d.th,iV d.at_,iV d.c.kd,iV d.c.sz,iV d.c.rt,iV d.c.ra,.int .u64 d.c.rr,iV d.c.ix,iV d.c.vl,iV d.c.ol,iV d.c.ky,.int .u64 d.hd,iV d.E,.int .u64 d.H,iV d.V,iV d.St,iV d.bg,iV d.en,tv]
structure SS where
 b:Nat
 Q:Q4
 cv:Value
 tv:Value
def SS.has (B:SS) (x:Nat):Prop:=x=B.b\/x=B.Q.p\/x=B.Q.c\/B.cv.ownBlock=some x\/B.tv.ownBlock=some x
structure XL (w:World) (B0:Nat) (B:SS) (me:Int) (sp:Option Addr) (cs:List Wc) (qs:List Int) (ob:Value) (d:Td) (ts:List Td):Prop where
 at_:∃ c,At w B.b 0 71 c (Aw me B.cv sp B.Q.p ob d B.tv)
 sc:Sl w 45 9 B.cv (cs.map Wc.l)
 st:Sl w 55 18 B.tv (ts.map Td.l)
 qu:Y6 w B.Q 64 qs
 d1:B.b≠B.Q.p/\B.b≠B.Q.c
 d2:∀ x,B.cv.ownBlock=some x->x≠B.b/\x≠B.Q.p/\x≠B.Q.c
 d3:∀ x,B.tv.ownBlock=some x->x≠B.b/\x≠B.Q.p/\x≠B.Q.c/\B.cv.ownBlock≠some x
 ge:∀ x,B.has x->B0<=x
 nc:cs.length<=64
 nt:ts.length<=64
namespace XL
variable {w w':World} {B0:Nat} {B:SS} {me:Int} {sp:Option Addr} {cs:List Wc} {qs:List Int} {ob:Value} {d:Td} {ts:List Td}
theorem only {S:Nat->Prop} (h:XL w B0 B me sp cs qs ob d ts) (o:Only S w w') (hs:∀ x,B.has x->¬ S x):XL w' B0 B me sp cs qs ob d ts:=by
 obtain⟨⟨c,a⟩,h1,h2,h3,h4,h5,h6,h7,h8,h9⟩:=h
 exact⟨⟨c,a.only o (hs _ (Or.inl rfl))⟩,h1.only o (fun x hx=>hs x (Or.inr (Or.inr (Or.inr (Or.inl hx))))),h2.only o (fun x hx=>hs x (Or.inr (Or.inr (Or.inr (Or.inr hx))))),h3.only o (hs _ (Or.inr (Or.inl rfl))) (hs _ (Or.inr (Or.inr (Or.inl rfl)))),h4,h5,h6,h7,h8,h9⟩
theorem lt (h:XL w B0 B me sp cs qs ob d ts):∀ x,B.has x->x<w.heap.size:=by
 obtain⟨⟨c,a⟩,h1,h2,h3,-⟩:=h
 rintro x (rfl | rfl | rfl | hx | hx)
 . exact a.lt
 . exact h3.AB
 . exact h3.Gt
 . exact h1.lt x hx
 . exact h2.lt x hx
theorem grown (h:XL w B0 B me sp cs qs ob d ts) (g:Below w.heap.size w w'):XL w' B0 B me sp cs qs ob d ts:=by
 have hlt:=h.lt
 exact h.only (S:=fun x=>w.heap.size<=x) (Only.O9 g) (fun x hx hh=>absurd (hlt x hx) (by omega))
end XL
section
variable {w:World} {sp:Option Addr} {n:Nat} {cv:Value} {cs:List Wc}
theorem BD (me:Int) (h:me<0\/8<=me) (cv:Value) (sp:Option Addr) (w:World):Calls Tryz.prog 8 #[iV me,cv,.pointer sp] w fun e w'=>e=.returned (.tuple #[.pointer none,iV 1])/\w'=w:=by
 by_cases h0:me<0
 . go_enter Tryz.func8,Tryz.ntmps8
   go_wp2
   go_ret2
   exact⟨rfl,rfl⟩
 . have h8:8<=me:=by omega
   go_enter Tryz.func8,Tryz.ntmps8
   go_wp2
   go_ret2
   exact⟨rfl,rfl⟩
theorem GV (me:Int) (h:0<=me/\me<8) (a:Option Addr) (N cap:Nat) (hN:64<N) (sp:Option Addr) (w:World):Calls Tryz.prog 8 #[iV me,.slice a N cap,.pointer sp] w fun e w'=>e=.returned (.tuple #[.pointer none,iV 1])/\w'=w:=by
 have h0:¬ me<0:=by omega
 have h8:¬ 8<=me:=by omega
 have h64:(64:Int)<(N:Int):=by omega
 go_enter Tryz.func8,Tryz.ntmps8
 go_wp2
 go_ret2
 exact⟨rfl,rfl⟩
set_option maxRecDepth 20000 in
theorem Et (me:Int) (h:0<=me/\me<8) (hc:Sl w 45 9 cv (cs.map Wc.l)) (hl:cs.length<=64) (hs:yO w sp n) (hb:cs.any (Wc.bad n)=true):Calls Tryz.prog 8 #[iV me,cv,.pointer sp] w fun e w'=>e=.returned (.tuple #[.pointer none,iV 1])/\Below w.heap.size w w':=by
 have h0:¬ me<0:=by omega
 have h8:¬ 8<=me:=by omega
 have hm:=QT hs
 have hk:∀ w1 p,Below w.heap.size w w1->w1.cell? ⟨p,0,none⟩=some (iV n)->Calls Tryz.prog 22 #[cv,.func (.func 40) #[] #[pP p 0]] w1 fun e w'=>e=.returned (.bool true)/\Below w1.heap.size w1 w':=fun w1 p g hp=>by
  have hl2:cs.length<=1000:=by omega
  have hr:=Ur (hc.grown g) hl2 hp
  rwa [hb] at hr
 obtain⟨a,cap,rfl,-⟩:=hc.is
 have hlen:(cs.map Wc.l).length=cs.length:=by simp
 have h64:¬ (64:Int)<((cs.map Wc.l).length:Int):=by omega
 clear hc hb hlen hl
 generalize hN:(cs.map Wc.l).length=N at *
 go_enter Tryz.func8,Tryz.ntmps8
 go_wp2_with (first
  | (go_at_call 23;refine hm.mono ?_;rintro e w1 ⟨p,rfl,hp,p0,g1⟩)
  | (go_at_call 22;refine(hk _ _ g1 hp).mono ?_;rintro e w2 ⟨rfl,g2⟩))
 go_ret2
 exact⟨rfl,grow g1 g2⟩
theorem Bq {w a b:World} {L:Q4} (h:Below w.heap.size w a) (o:Only L.has a b) (hc:w.heap.size<=L.c):Below w.heap.size w b :=
 h.trans (o.below h.size (fun i hi hs=>by unfold Q4.has at hs;omega))
def Eo (i:Nat):List Int:=(List.range i).map fun(j:Nat)=>(j:Int)
theorem Eh (i:Nat):Eo (i+1)=Eo i ++ [(i:Int)]:=by unfold Eo;rw[List.range_succ,List.map_append];rfl
theorem Ju (i:Nat):(Eo i).length=i:=by unfold Eo;simp
set_option maxRecDepth 20000 in
theorem Qa (me:Int) (h:0<=me/\me<8) (hc:Sl w 45 9 cv (cs.map Wc.l)) (hl:cs.length<=64) (hs:yO w sp n) (hb:cs.any (Wc.bad n)=false):Calls Tryz.prog 8 #[iV me,cv,.pointer sp] w fun e w'=>∃ B,e=.returned (.tuple #[.pointer (some ⟨SS.b B,0,none⟩),iV 0])/\XL w' w.heap.size B me sp cs (Eo cs.length) .nilIface qx []/\Below w.heap.size w w':=by
 have h0:¬ me<0:=by omega
 have h8:¬ 8<=me:=by omega
 have hm:=QT hs
 have hk:∀ w1 p,Below w.heap.size w w1->w1.cell? ⟨p,0,none⟩=some (iV n)->Calls Tryz.prog 22 #[cv,.func (.func 40) #[] #[pP p 0]] w1 fun e w'=>e=.returned (.bool false)/\Below w1.heap.size w1 w':=fun w1 p g hp=>by
  have hl2:cs.length<=1000:=by omega
  have hr:=Ur (hc.grown g) hl2 hp
  rwa [hb] at hr
 have hq:=fun w=>BN 64 (by decide) (by decide) w
 have hcl:∀ w1,Below w.heap.size w w1->Calls Tryz.prog 26 #[cv] w1 fun e w'=>∃ v',e=.returned v'/\Sl w' 45 9 v' (cs.map Wc.l)/\Below w1.heap.size w1 w'/\∀ k,v'.ownBlock=some k->w1.heap.size<=k:=fun w1 g=>(hc.grown g).J7 (by simp;omega)
 obtain⟨a,cap,rfl,-⟩:=hc.is
 have hlen:(cs.map Wc.l).length=cs.length:=by simp
 have h64:¬ (64:Int)<((cs.map Wc.l).length:Int):=by omega
 clear hc hb
 have HL:Hid ((cs.map Wc.l).length=cs.length/\cs.length<=64):=⟨hlen,hl⟩
 clear hlen
 generalize hN:(cs.map Wc.l).length=N at *
 go_enter Tryz.func8,Tryz.ntmps8
 go_wp2_with (first
  | (go_at_call 23;refine hm.mono ?_;rintro e w1 ⟨p,rfl,hp,p0,g1⟩)
  | (go_at_call 22;refine(hk _ _ g1 hp).mono ?_;rintro e w2 ⟨rfl,g2⟩)
  | (go_at_call 24;refine(hq _).mono ?_;rintro e w3 ⟨L,rfl,q3,g3,f3,f4⟩))
 have g12:Below w.heap.size w w3:=grow g1 (grow g2 g3)
 have hsz:w.heap.size<=L.c:=Nat.le_trans (grow g1 g2).size f3
 have rO:w.heap.size<=L.p:=Nat.le_trans (grow g1 g2).size f4
 clear hm hk hq hp g1 g2 g3 f3 f4
 go_loopw [34] (fun iv wr=>∃ i:Nat,iv=iV i/\i<=N/\Y6 wr L 64 (Eo i)/\Below w.heap.size w wr) (fun iv _=>2000 - (intOf iv).toNat)
 case atStart=>exact⟨0,rfl,Nat.zero_le _,q3,g12⟩
 case round =>
  clear q3 g12
  obtain⟨i,rfl,hi,qi,g⟩:=hrel
  by_cases hin:i<N
  . have hi1:(i:Int)<(N:Int):=by omega
    have hib:(0:Int)<=(i:Int)/\(i:Int)<(N:Int):=by omega
    have hi9:(i:Int)<=64:=by have:=HL.out;omega
    have hpu:=KG qi i (by rw[Ju];have:=HL.out;omega)
    have HI:Hid (i<N/\N<=64):=⟨hin,by have:=HL.out;omega⟩
    have HG:Hid (Below w.heap.size w wr/\w.heap.size<=L.c):=⟨g,hsz⟩
    clear hin hi qi g hsz
    go_wp2_with (go_at_call 25;refine hpu.mono ?_;rintro e w4 ⟨rfl,q4,o4,z4⟩)
    go_roundw
    case rel=>exact⟨i+1,by go_num,HI.out.1,by rw[Eh];exact q4,Bq HG.out.1 o4 HG.out.2⟩
    case measure=>have:=HI.out;simp[intOf];omega
  . obtain rfl:i=N:=by omega
    have hi1:¬ (i:Int)<(i:Int):=by omega
    have hcl:=hcl _ g
    go_wp2_with (go_at_call 26;refine hcl.mono ?_;rintro e w5 ⟨v5,rfl,s5,g5,f5⟩;obtain⟨a5,c5,rfl,-⟩:=s5.is;rw[hN] at s5 f5)
    go_ret2
    have lW:=qi.Gt
    have lV:=qi.AB
    have hs5:=s5.lt
    have lU:=g5.size
    refine⟨⟨w5.heap.size,L,.slice a5 i c5,.slice none 0 0⟩,rfl,⟨⟨_,At.new w5 _ (Aw me (.slice a5 i c5) sp L.p .nilIface qx (.slice none 0 0))⟩,s5.grown (ZZ _ _),Or.inl ⟨rfl,rfl⟩,(show Y6 _ L 64 (Eo cs.length) by rw[<- HL.out.1];exact(qi.below g5).below (ZZ _ _)),⟨?_,?_⟩,fun x hx=>⟨?_,?_,?_⟩,fun x hx=>(by cases hx),fun x hx=>?_,HL.out.2,(by simp)⟩,grow (grow g g5) (ZZ _ _)⟩
    . show w5.heap.size≠L.p;have:=(qi.below g5).AB;omega
    . show w5.heap.size≠L.c;have:=(qi.below g5).Gt;omega
    . have:=hs5 x hx;show x≠w5.heap.size;omega
    . have:=f5 x hx;show x≠L.p;omega
    . have:=f5 x hx;show x≠L.c;omega
    . have hgz:=g.size
      rcases hx with rfl | rfl | rfl | hx | hx
      . show w.heap.size<=w5.heap.size;omega
      . exact rO
      . exact hsz
      . have:=f5 x hx;omega
      . cases hx
end
end
section
section
variable {w w':World} {B0:Nat} {B:SS} {me:Int} {sp:Option Addr} {cs:List Wc} {qs:List Int} {ob:Value} {d:Td} {ts:List Td}
theorem U4 (h:XL w B0 B me sp cs qs ob d ts):Calls Tryz.prog 12 #[pP B.b 0] w fun e w'=>e=.returned (.bool (decide (ts.length=cs.length)))/\Below w.heap.size w w':=by
 obtain⟨c,a⟩:=h.at_
 obtain⟨a1,c1,e1,-⟩:=h.sc.is
 obtain⟨a2,c2,e2,-⟩:=h.st.is
 have k1:=a.at0 1 rfl
 have k2:=a.at0 23 rfl
 rw[e1,List.length_map] at k1
 rw[e2,List.length_map] at k2
 have hb:(((ts.length:Nat):Int) == ((cs.length:Nat):Int))=decide (ts.length=cs.length):=by
  by_cases e:ts.length=cs.length
  . rw[e];simp
  . rw[decide_eq_false e];simp;omega
 clear h a e1 e2
 generalize decide (ts.length=cs.length)=D at *
 generalize ts.length=N at *
 generalize cs.length=M at *
 go_enter Tryz.func12,Tryz.ntmps12
 go_wp2
 go_region
 all_goals go_wp2
 all_goals go_ret
 all_goals exact⟨rfl,below_drewN (Below.refl _ _) _⟩
theorem Nc (h:XL w B0 B me sp cs qs .nilIface d ts):Calls Tryz.prog 15 #[pP B.b 0] w fun e w'=>e=.returned (.bool true)/\w'=w:=by
 obtain⟨c,a⟩:=h.at_
 have k1:=a.at0 4 rfl
 have he:∀ w,(binOp .eql 69 .nilIface .nilIface).run Tryz.prog w=.ok (.bool true) w:=fun w=>by kernel_rfl
 clear h a
 go_enter Tryz.func15,Tryz.ntmps15
 go_wp2
 go_ret
 exact⟨rfl,rfl⟩
theorem GU {T:TypeId} {p:Option Addr} (h:XL w B0 B me sp cs qs (.iface T (.pointer p)) d ts):Calls Tryz.prog 15 #[pP B.b 0] w fun e w'=>e=.returned (.bool false)/\w'=w:=by
 obtain⟨c,a⟩:=h.at_
 have k1:=a.at0 4 rfl
 have he:∀ w,(binOp .eql 69 (.iface T (.pointer p)) .nilIface).run Tryz.prog w=.ok (.bool false) w:=fun w=>by kernel_rfl
 clear h a
 go_enter Tryz.func15,Tryz.ntmps15
 go_wp2
 go_ret
 exact⟨rfl,rfl⟩
theorem GN (h:XL w B0 B me sp cs qs ob d ts):Calls Tryz.prog 17 #[pP B.b 0] w fun e w'=>∃ v',e=.returned v'/\Sl w' 55 18 v' (ts.map Td.l)/\Below w.heap.size w w'/\∀ k,v'.ownBlock=some k->w.heap.size<=k:=by
 obtain⟨c,a⟩:=h.at_
 have hc:=h.st.Kr (by have:=h.nt;simp;omega)
 have k2:=a.at0 23 rfl
 clear h a
 go_enter Tryz.func17,Tryz.ntmps17
 go_wp2_with (go_at_call 35;refine hc.mono ?_;rintro e w1 ⟨v',rfl,r1,r2,r3⟩)
 go_ret
 exact⟨v',rfl,r1,r2,r3⟩
def madeOf (ts:List Td) (i:Int):Int:=if i<0 then 0 else ((ts[i.toNat]?).map Td.H).getD 0
theorem Es {b:Nat} {c:Array Value} {cv tv:Value} {qp:Nat} (a:At w b 0 71 c (Aw me cv sp qp ob d tv)) (hsl:Sl w 55 18 tv (ts.map Td.l)) (nt:ts.length<=64) (i:Int):Calls Tryz.prog 18 #[pP b 0,iV i] w fun e w'=>e=.returned (.int .u64 (madeOf ts i))/\w'=w:=by
 obtain⟨a2,c2,e2,hs⟩:=hsl.is
 have k2:=a.at0 23 rfl
 rw[e2] at k2
 have hlen:(ts.map Td.l).length=ts.length:=by simp
 by_cases h0:i<0
 . have e:madeOf ts i=0:=by unfold madeOf;rw[if_pos h0]
   rw[e]
   clear hsl a e2 hs
   go_enter Tryz.func18,Tryz.ntmps18
   go_wp2
   go_ret
   exact⟨rfl,rfl⟩
 . by_cases h1:i<(ts.length:Int)
   . obtain⟨j,rfl⟩:∃ j:Nat,i=j:=⟨i.toNat,by omega⟩
     obtain⟨t,ht⟩:∃ t,ts[j]?=some t:=⟨_,List.getElem?_eq_getElem (by omega)⟩
     have e:madeOf ts j=t.H:=by unfold madeOf;rw[if_neg h0,Int.toNat_natCast,ht];rfl
     rw[e]
     obtain⟨b,rfl,hb,hcl⟩:=hs j t.l (by simp[ht])
     have c0:=hcl 13 _ rfl
     have h2:¬ ((ts.map Td.l).length:Int)<=(j:Int):=by omega
     have h3:(j:Int)<((ts.map Td.l).length:Int):=by omega
     have hib:(0:Int)<=(j:Int)/\(j:Int)<((ts.map Td.l).length:Int):=by omega
     have mg:(j:Int)<=64:=by omega
     clear hsl a e2 hs hcl hlen
     generalize hN:(ts.map Td.l).length=N at *
     go_enter Tryz.func18,Tryz.ntmps18
     go_wp2
     go_ret
     exact⟨rfl,rfl⟩
   . have e:madeOf ts i=0:=by unfold madeOf;rw[if_neg h0,List.getElem?_eq_none (by omega)];rfl
     rw[e]
     have h2:((ts.map Td.l).length:Int)<=i:=by omega
     clear hsl a e2 hs hlen
     generalize hN:(ts.map Td.l).length=N at *
     go_enter Tryz.func18,Tryz.ntmps18
     go_wp2
     go_ret
     exact⟨rfl,rfl⟩
theorem GM (h:XL w B0 B me sp cs qs ob d ts) (i:Int):Calls Tryz.prog 18 #[pP B.b 0,iV i] w fun e w'=>e=.returned (.int .u64 (madeOf ts i))/\w'=w:=by
 obtain⟨c,a⟩:=h.at_
 exact Es a h.st h.nt i
end
end
section
section
variable {w:World}
theorem Bv (c:Wc) (h:Int) (hk:c.asks=false) (sp:Option Addr) (Z:Nat->World->World->Prop) (hn:∀ w1,Below w.heap.size w w1->Calls Tryz.prog 54 #[(c.x h).v] w1 fun e w'=>∃ A,e=.returned (.tuple #[pP A 0,iV 0])/\Z A w1 w') :
 Calls Tryz.prog 43 #[c.v,.int .u64 h,.pointer sp] w fun e w'=>∃ A w1,e=.returned (.iface 109 (pP A 0))/\Below w.heap.size w w1/\Z A w1 w':=by
 have x0:=OX.new c w
 have g0:=ZZ w (.cells #[iV c.kd,iV c.sz,iV c.rt,iV c.ra,.int .u64 c.rr,iV c.ix,iV c.vl,iV c.ol,iV c.ky] 45)
 have ha:=fun w=>Vx c w
 rw[hk] at ha
 have hq:=fun w=>P8 c h w
 generalize hX:(c.x h).v=X at *
 have t0:=x0.at0 0 rfl
 have t1:=x0.at0 1 rfl
 have t2:=x0.at0 2 rfl
 have t3:=x0.at0 3 rfl
 have t4:=x0.at0 4 rfl
 have t5:=x0.at0 5 rfl
 have t6:=x0.at0 6 rfl
 have t7:=x0.at0 7 rfl
 have t8:=x0.at0 8 rfl
 go_enter Tryz.func43,Tryz.ntmps43
 go_wp2_with (first
  | (go_at_call 30;refine(ha _).mono ?_;rintro e w1 ⟨rfl,g1⟩;have x1:=x0.grown g1;have t0:=x1.at0 0 rfl;have t1:=x1.at0 1 rfl;have t2:=x1.at0 2 rfl;have t3:=x1.at0 3 rfl;have t4:=x1.at0 4 rfl;have t5:=x1.at0 5 rfl;have t6:=x1.at0 6 rfl;have t7:=x1.at0 7 rfl;have t8:=x1.at0 8 rfl)
  | (go_at_call 34;refine(hq _).mono ?_;rintro e w2 ⟨rfl,g2⟩)
  | (go_at_call 54;refine(hn _ (grow g0 (grow g1 g2))).mono ?_;rintro e w3 ⟨A,rfl,z3⟩))
 go_ret
 exact⟨A,w2,rfl,grow g0 (grow g1 g2),z3⟩
set_option maxRecDepth 20000 in
theorem Ei (c:Wc) (h:Int) (hk:c.asks=true) (hm:c.may=true) {b N:Nat} (S:ShAt w b N) (h0:0<N) :
 Calls Tryz.prog 43 #[c.v,.int .u64 h,pP b 0] w fun e w'=>∃ b',e=.returned (.iface 112 (pP b' 0))/\ZJ w' b' (.pointer none) (Gx (c.kd - 5) c.ky (65536+OY c.ky N))/\Below w.heap.size w w'/\w.heap.size<=b':=by
 have x0:=OX.new c w
 have g0:=ZZ w (.cells #[iV c.kd,iV c.sz,iV c.rt,iV c.ra,.int .u64 c.rr,iV c.ix,iV c.vl,iV c.ol,iV c.ky] 45)
 have ha:=fun w=>Vx c w
 have hq:=fun w=>QV c hk w
 have hm:V4 (c.kd - 5) c.ky=true:=by unfold Wc.may at hm;rw[hk] at hm;exact hm
 rw[hk] at ha
 have cells:∀ w1,Grown (w.alloc (.cells #[iV c.kd,iV c.sz,iV c.rt,iV c.ra,.int .u64 c.rr,iV c.ix,iV c.vl,iV c.ol,iV c.ky] 45)) w1->At w1 w.heap.size 0 45 #[iV c.kd,iV c.sz,iV c.rt,iV c.ra,.int .u64 c.rr,iV c.ix,iV c.vl,iV c.ol,iV c.ky] c.l:=fun w1 g=>x0.grown g
 have t0:=x0.at0 0 rfl
 have t1:=x0.at0 1 rfl
 have t2:=x0.at0 2 rfl
 have t3:=x0.at0 3 rfl
 have t4:=x0.at0 4 rfl
 have t5:=x0.at0 5 rfl
 have t6:=x0.at0 6 rfl
 have t7:=x0.at0 7 rfl
 have t8:=x0.at0 8 rfl
 have hs:∀ w1,Below w.heap.size w w1->Calls Tryz.prog 58 #[pP b 0,iV (c.kd - 5),iV c.ky] w1 _:=fun w1 g=>EC (S.grown g) h0 hm
 clear S hm
 generalize c.kd - 5=K at *
 go_enter Tryz.func43,Tryz.ntmps43
 go_wp2_with (go_at_call 30;refine(ha _).mono ?_;rintro e w1 ⟨rfl,g1⟩)
 refine ZK Grown 10 [.val (pP b 0),.val (c.v),.val (iV K),.val (pP w.heap.size 8),.val (iV c.ky),.that (fun W v=>∃ b',v=.tuple #[pP b' 0,iV 0]/\ZJ W b' (.pointer none) (Gx K c.ky (65536+OY c.ky N))/\w.heap.size<=b') (fun x y v g ⟨b',h1,h2,h3⟩=>⟨b',h1,h2.grown g,h3⟩),.that (fun W v=>∃ b',v=.tuple #[pP b' 0,iV 0]/\ZJ W b' (.pointer none) (Gx K c.ky (65536+OY c.ky N))/\w.heap.size<=b') (fun x y v g ⟨b',h1,h2,h3⟩=>⟨b',h1,h2.grown g,h3⟩),.that (fun W v=>∃ b',v=(pP b' 0)/\ZJ W b' (.pointer none) (Gx K c.ky (65536+OY c.ky N))/\w.heap.size<=b') (fun x y v g ⟨b',h1,h2,h3⟩=>⟨b',h1,h2.grown g,h3⟩),.val (iV 0),.that (fun W v=>∃ b',v=(pP b' 0)/\ZJ W b' (.pointer none) (Gx K c.ky (65536+OY c.ky N))/\w.heap.size<=b') (fun x y v g ⟨b',h1,h2,h3⟩=>⟨b',h1,h2.grown g,h3⟩)] (by kernel_rfl) Grown.refl Grown.trans (by decide) (by kernel_rfl) (by kernel_rfl) (by kernel_rfl) (by kernel_rfl) (by kernel_rfl) (by kernel_rfl) ?_
 simp only[List.take_succ_cons,List.take_zero,ZH,Act.put,List.setIfInBounds_toArray,List.set_cons_zero,List.set_cons_succ]
 refine⟨?_,⟨?_,⟨?_,⟨?_,⟨?_,⟨?_,fun _=>⟨?_,fun _=>⟨?_,fun _=>⟨?_,⟨?_,fun _=>?_⟩⟩⟩⟩⟩⟩⟩⟩⟩⟩
 . intro w' hg HF
   apply ol
   clear HF
   go_simp
   exact gl
 . intro w' hg HF
   apply ol
   have x1:=cells _ (grow (grow g1 ((Below.refl _ _).drew)) hg)
   have t0:=x1.at0 0 rfl
   have t1:=x1.at0 1 rfl
   have t2:=x1.at0 2 rfl
   have t3:=x1.at0 3 rfl
   have t4:=x1.at0 4 rfl
   have t5:=x1.at0 5 rfl
   have t6:=x1.at0 6 rfl
   have t7:=x1.at0 7 rfl
   have t8:=x1.at0 8 rfl
   clear HF
   go_simp
   exact gl
 . intro w' hg HF
   apply ol
   clear HF
   go_simp
   refine(hq _).mono ?_
   rintro e w'' ⟨rfl,g⟩
   exact⟨_,rfl,g,rfl⟩
 . intro w' hg HF
   apply ol
   clear HF
   go_simp
   exact gl
 . intro w' hg HF
   apply ol
   have x1:=cells _ (grow (grow g1 ((Below.refl _ _).drew)) hg)
   have t0:=x1.at0 0 rfl
   have t1:=x1.at0 1 rfl
   have t2:=x1.at0 2 rfl
   have t3:=x1.at0 3 rfl
   have t4:=x1.at0 4 rfl
   have t5:=x1.at0 5 rfl
   have t6:=x1.at0 6 rfl
   have t7:=x1.at0 7 rfl
   have t8:=x1.at0 8 rfl
   clear HF
   go_simp
   exact gl
 . intro w' hg HF
   apply ol
   clear HF
   go_simp
   have G5:=grow g0 (grow (grow g1 ((Below.refl _ _).drew)) hg)
   refine(hs _ G5).mono ?_
   rintro e w'' ⟨b',rfl,lr,g6,f6⟩
   exact⟨_,rfl,g6,b',rfl,lr,Nat.le_trans G5.size f6⟩
 . intro w' hg HF
   apply ol
   obtain⟨b',rfl,lr,hb⟩:=HF.1 (by kernel_rfl)
   clear HF
   go_simp
   exact⟨Grown.refl _,b',rfl,lr,hb⟩
 . intro w' hg HF
   apply ol
   obtain⟨b',rfl,lr,hb⟩:=HF.1 (by kernel_rfl)
   clear HF
   go_simp
   exact⟨Grown.refl _,b',rfl,lr,hb⟩
 . intro w' hg HF
   apply ol
   obtain⟨b',rfl,lr,hb⟩:=HF.2.1 (by kernel_rfl)
   clear HF
   go_simp
   exact gl
 . intro w' hg HF
   apply ol
   obtain⟨b',rfl,lr,hb⟩:=HF.1 (by kernel_rfl)
   clear HF
   go_simp
   exact⟨Grown.refl _,b',rfl,lr,hb⟩
 intro w5 hg HF
 obtain⟨⟨b',rfl,lr,hb⟩,-⟩:=HF
 have G5:=grow g0 (grow (grow g1 ((Below.refl _ _).drew)) hg)
 go_wp2
 go_ret
 exact⟨b',rfl,lr,G5,hb⟩
end
end
section
set_option maxRecDepth 20000
structure OnlyC (b lo hi:Nat) (x y:World):Prop where
 on:Only (fun k=>k=b) x y
 cl:∀ j v,¬ (lo<=j/\j<hi)->x.cell? ⟨b,j,none⟩=some v->y.cell? ⟨b,j,none⟩=some v
namespace OnlyC
variable {b lo hi:Nat} {x y z:World}
theorem refl (x:World):OnlyC b lo hi x x:=⟨Only.refl _ _,fun _ _ _ h=>h⟩
theorem trans (x y z:World) (h:OnlyC b lo hi x y) (g:OnlyC b lo hi y z):OnlyC b lo hi x z:=⟨h.on.trans g.on,fun j v hj hc=>g.cl j v hj (h.cl j v hj hc)⟩
theorem grown (x y:World) (h:Grown x y):OnlyC b lo hi x y:=⟨Only.Z5 h,fun _ _ _ hc=>keep' h hc⟩
theorem set (h:OnlyC b lo hi x y) {j:Nat} (hj:lo<=j/\j<hi) (v:Value):OnlyC b lo hi x (y.setCell ⟨b,j,none⟩ v):=⟨h.on.setCell (a:=⟨b,j,none⟩) (fun _=>rfl) v,fun i u hi hc=>by
 rw[World.cell?_setCell_other _ _ _ _ (fun e=>hi (by cases e;exact hj))];exact h.cl i u hi hc⟩
end OnlyC
@[reducible] def Td.done (d:Td) (E H V St:Int):Td:={ d with E:=E,H:=H,V:=V,St:=St }
@[reducible] def Td.end_ (d:Td) (en:Int):Td:={ d with en:=en }
def Em (b:Nat) (me:Int) (cv:Value) (sp:Option Addr) (qp:Nat) (ob:Value) (d:Td) (tv:Value) (E H V:Int):Nat->World->Prop
 | 0,w=>∃ c,At w b 0 71 c (Aw me cv sp qp ob d tv)
 | _,w=>∃ St c,At w b 0 71 c (Aw me cv sp qp ob (d.done E H V St) tv)
theorem Nb {b:Nat} {me:Int} {cv:Value} {sp:Option Addr} {qp:Nat} {ob:Value} {d:Td} {tv:Value} {E H V:Int} (x y:World) (p:Nat) (g:Grown x y) (h:Em b me cv sp qp ob d tv E H V p x):Em b me cv sp qp ob d tv E H V p y:=by
 match p,h with
 | 0,⟨c,a⟩=>exact⟨c,a.grown g⟩
 | _+1,⟨St,c,a⟩=>exact⟨St,c,a.grown g⟩
def yL (tv:Value) (l:List (List Value)):Nat->World->Prop
 | 0,w=>Sl w 55 18 tv l
 | _,_=>True
theorem J9 {tv:Value} {l:List (List Value)} (x y:World) (p:Nat) (g:Grown x y) (h:yL tv l p x):yL tv l p y:=by
 match p,h with
 | 0,h=>exact Sl.grown h g
 | _+1,_=>trivial
section
variable {w:World} {B0:Nat} {B:SS} {me:Int} {sp:Option Addr} {cs:List Wc} {qs:List Int} {d:Td} {ts:List Td}
set_option maxRecDepth 20000 in
set_option maxHeartbeats 4000000 in
theorem Na {T:TypeId} {p:Option Addr} (h:XL w B0 B me sp cs qs (.iface T (.pointer p)) d ts) (hN:ts.length<64) (c0 c1 c2 c3 c4 c5 c6 who:Int) {L:Loc} {g:FuncId} {E H V:Int} {σ:Nat}
 (hm:∀ w,(method 351 T (.pointer p) "Done").run Tryz.prog w=.ok (g,.pointer p) w) (he:∀ args w,(callFunc g args).run Tryz.prog w=.ok (.enter g args) w)
 (hd:∀ w1,Only (fun x=>x=B.b) w w1->Calls Tryz.prog g #[.pointer p] w1 fun e w'=>∃ St,e=.returned (.agg #[.int .i64 E,.int .u64 H,.int .i64 V,.int .i64 St])/\Below w1.heap.size w1 w')
 (Ti:∀ w1,Only (fun x=>x=B.b) w w1->Calls Tryz.prog 11 #[.agg #[.int .i64 c0,.int .i64 c1,.int .i64 c2,.int .i64 c3,.int .i64 c4,.int .i64 c5,.int .i64 c6,.pointer (some ⟨L.p,0,none⟩),.int .i64 who]] w1 fun e w'=>e=.returned (.int .i64 σ)/\Below w1.heap.size w1 w') :
 Calls Tryz.prog 29 #[.pointer (some ⟨B.b,0,none⟩),.agg #[.int .i64 c0,.int .i64 c1,.int .i64 c2,.int .i64 c3,.int .i64 c4,.int .i64 c5,.int .i64 c6,.pointer (some ⟨L.p,0,none⟩),.int .i64 who]] w fun e w'=>e=.returned (.tuple #[])/\∃ (B':SS) (St:Int),B'.b=B.b/\XL w' B0 B' me sp cs qs .nilIface ((d.done E H V St).end_ σ) (ts ++ [(d.done E H V St).end_ σ])/\Only B.has w w'/\∀ x,B'.has x->B.has x\/w.heap.size<=x:=by
 obtain⟨b,Q,cv,tv⟩:=B
 have hlt:=h.lt
 obtain⟨⟨c,a⟩,h1,h2,h3,h4,h5,h6,h7,h8,h9⟩:=h
 simp only at a h1 h2 h3 h4 h5 h6 hd Ti ⊢
 have hbw:=a.lt
 have g0:=ZZ w (.cells #[.int .i64 c0,.int .i64 c1,.int .i64 c2,.int .i64 c3,.int .i64 c4,.int .i64 c5,.int .i64 c6,.pointer (some ⟨L.p,0,none⟩),.int .i64 who] 27)
 have v0:=ZP.new (w:=w) (P:=L.p) (c0:=c0) (c1:=c1) (c2:=c2) (c3:=c3) (c4:=c4) (c5:=c5) (c6:=c6) (who:=who) (T:=27)
 go_enter Tryz.func29,Tryz.ntmps29
 go_wp2
 refine ZT (fun W=>Below w.heap.size w W/\ZP W w.heap.size c0 c1 c2 c3 c4 c5 c6 L.p who) ⟨g0,v0⟩ ?_
 rintro W ⟨g1,v1⟩
 clear g0 v0
 have a1:=a.grown g1
 have hne:w.heap.size≠b:=by omega
 have bx:∀ w',OnlyC b 17 21 W.drew w'->ZP w' w.heap.size c0 c1 c2 c3 c4 c5 c6 L.p who:=fun w' hg=>(v1.grown ((Below.refl _ _).drew)).only hg.on hne
 have on:∀ w',OnlyC b 17 21 W.drew w'->Only (fun x=>x=b) w w':=fun w' hg=>(Only.Z5 (grow g1 ((Below.refl _ _).drew))).trans hg.on
 have k4:W.drew.cell? ⟨b,4,none⟩=some (.iface T (.pointer p)):=a1.drew.at0 4 rfl
 refine YD (OnlyC b 17 21) Grown (Em b me cv sp Q.p (.iface T (.pointer p)) d tv E H V) 16 [12] [.val (.pointer (some ⟨b,0,none⟩)),.val (.pointer (some ⟨b,0,none⟩)),.val (.pointer (some ⟨b,0,none⟩)),.val (.pointer (some ⟨b,0,none⟩)),.val (.pointer (some ⟨b,4,none⟩)),.val (.iface T (.pointer p)),.that (fun _ v=>∃ St:Int,v=.agg #[.int .i64 E,.int .u64 H,.int .i64 V,.int .i64 St]) (fun _ _ _ _ h=>h),.val (.agg #[.int .i64 c0,.int .i64 c1,.int .i64 c2,.int .i64 c3,.int .i64 c4,.int .i64 c5,.int .i64 c6,.pointer (some ⟨L.p,0,none⟩),.int .i64 who]),.val (.int .i64 σ),.val (.pointer (some ⟨b,0,none⟩)),.val (.pointer (some ⟨b,5,none⟩)),.val (.pointer (some ⟨b,17,none⟩)),.val undef,.val (.pointer (some ⟨b,0,none⟩)),.val (.pointer (some ⟨b,5,none⟩)),.val (.pointer (some ⟨b,22,none⟩))]
  (by kernel_rfl) (OnlyC.refl) (OnlyC.trans) (OnlyC.grown) (Nb) (⟨_,a1.drew⟩) (by decide) (by kernel_rfl) (by kernel_rfl) (by kernel_rfl) (by kernel_rfl) (by kernel_rfl) (by kernel_rfl) (by kernel_rfl) (by kernel_rfl) ?_
 simp only[List.take_succ_cons,List.take_zero,Zo,Act.put,List.setIfInBounds_toArray,List.set_cons_zero,List.set_cons_succ]
 refine⟨?_,⟨?_,⟨?_,⟨?_,⟨?_,⟨?_,⟨?_,fun _=>⟨?_,⟨?_,⟨?_,⟨?_,⟨?_,⟨?_,⟨?_,⟨?_,⟨?_,?_⟩⟩⟩⟩⟩⟩⟩⟩⟩⟩⟩⟩⟩⟩⟩⟩
 . intro w' hg HF
   apply ol
   clear HF
   go_simp
   exact gl
 . intro w' hg HF
   apply ol
   clear HF
   go_simp
   exact gl
 . intro w' hg HF
   apply ol
   clear HF
   go_simp
   exact gl
 . intro w' hg HF
   apply ol
   clear HF
   go_simp
   exact gl
 . intro w' hg HF
   apply ol
   clear HF
   go_simp
   exact gl
 . intro w' hg HF
   apply ol
   have k:=hg.cl 4 _ (by omega) k4
   clear HF
   go_simp
   exact gl
 . intro w' hg HF
   apply ol
   have hd1:=hd _ (on _ hg)
   clear HF
   go_simp
   refine hd1.mono ?_
   rintro e w'' ⟨St,rfl,g9⟩
   exact⟨_,rfl,g9,St,rfl⟩
 . intro w' hg HF
   apply ol
   obtain⟨y0,y1,y2,y3,y4,y5,y6,y7,y8⟩:=bx _ hg
   clear HF
   go_simp
   exact gl
 . intro w' hg HF
   apply ol
   have hn1:=Ti _ (on _ hg)
   clear HF
   go_simp
   refine hn1.mono ?_
   rintro e w'' ⟨rfl,g9⟩
   exact⟨_,rfl,g9,rfl⟩
 . intro w' hg HF
   apply ol
   clear HF
   go_simp
   exact gl
 . intro w' hg HF
   apply ol
   clear HF
   go_simp
   exact gl
 . intro w' hg HF
   apply ol
   clear HF
   go_simp
   exact gl
 . intro w' hg HF hP
   apply ol
   obtain⟨St,rfl⟩:=HF.1 (by kernel_rfl)
   obtain⟨c9,a9⟩:=hP
   have kf:=a9.fz
   have k17:=a9.at0 17 rfl
   have k18:=a9.at0 18 rfl
   have k19:=a9.at0 19 rfl
   have k20:=a9.at0 20 rfl
   clear HF
   go_simp
   exact⟨⟨((((OnlyC.refl _).set (by omega) _).set (by omega) _).set (by omega) _).set (by omega) _,St,_,(((a9.ZQ 17 _).ZQ 18 _).ZQ 19 _).ZQ 20 _⟩,rfl⟩
 . intro w' hg HF
   apply ol
   clear HF
   go_simp
   exact gl
 . intro w' hg HF
   apply ol
   clear HF
   go_simp
   exact gl
 . intro w' hg HF
   apply ol
   clear HF
   go_simp
   exact gl
 intro w5 hg hP HF
 obtain⟨⟨l9,rfl⟩,-⟩:=HF
 obtain⟨St,c9,a9⟩:=hP
 have kf:=a9.fz
 have k22:=a9.at0 22 rfl
 go_wp2
 have G6:Only (fun x=>x=b) w (w5.setCell ⟨b,22,none⟩ (.int .i64 σ)):=((Only.Z5 (grow g1 ((Below.refl _ _).drew))).trans hg.on).setCell (a:=⟨b,22,none⟩) (fun _=>rfl) _
 have a10:=a9.ZQ 22 (.int .i64 σ)
 clear hd Ti bx on k4 v1 g1 a1 a hg k22 kf
 generalize w5.setCell ⟨b,22,none⟩ (.int .i64 σ)=w6 at *
 replace a10:∃ c,At w6 b 0 71 c (Aw me cv sp Q.p (.iface T (.pointer p)) ((d.done E H V St).end_ σ) tv):=⟨_,a10⟩
 clear a9 c9
 obtain⟨c9,a9⟩:=a10
 have nb:∀ x,tv.ownBlock=some x->¬ (x=b):=fun x hx=>(h6 x hx).1
 have s6:Sl w6 55 18 tv (ts.map Td.l):=h2.only G6 (fun x hx=>nb x hx)
 have hts:=s6.lt
 have nK:=G6.size
 have uS:∀ w',GL tv 55 (ts.map Td.l ++ [((d.done E H V St).end_ σ).l]) w6.drew w'->At w' b 0 71 c9 (Aw me cv sp Q.p (.iface T (.pointer p)) ((d.done E H V St).end_ σ) tv):=fun w' hg=>a9.drew.only hg.on (fun e=>nb b e rfl)
 obtain⟨lZ,lY,lX,-⟩:=s6.is
 refine YD (GL tv 55 (ts.map Td.l ++ [((d.done E H V St).end_ σ).l])) Grown (yL tv (ts.map Td.l)) 11 [10] [.val (.pointer (some ⟨b,0,none⟩)),.val (.pointer (some ⟨b,0,none⟩)),.val (.pointer (some ⟨b,0,none⟩)),.val (.pointer (some ⟨b,23,none⟩)),.val (tv),.val (.pointer (some ⟨b,0,none⟩)),.val (.pointer (some ⟨b,0,none⟩)),.val (.pointer (some ⟨b,5,none⟩)),.val (.agg #[.int .i64 d.th,.int .i64 d.at_,.int .i64 d.c.kd,.int .i64 d.c.sz,.int .i64 d.c.rt,.int .i64 d.c.ra,.int .u64 d.c.rr,.int .i64 d.c.ix,.int .i64 d.c.vl,.int .i64 d.c.ol,.int .i64 d.c.ky,.int .u64 d.hd,.int .i64 E,.int .u64 H,.int .i64 V,.int .i64 St,.int .i64 d.bg,.int .i64 σ]),.that (fun W v=>∃ g,v=.slice (some ⟨g,0,none⟩) 1 1/\w6.heap.size<=g/\At W g 0 55 ((d.done E H V St).end_ σ).l.toArray ((d.done E H V St).end_ σ).l) (fun x y v g ⟨q,h1,h2,h3⟩=>⟨q,h1,h2,h3.only g.on (fun e=>absurd (hts q e) (by omega))⟩),.that (fun W v=>Sl W 55 18 v (ts.map Td.l ++ [((d.done E H V St).end_ σ).l])/\∀ k,v.ownBlock=some k->tv.ownBlock=some k\/w6.heap.size<=k) (fun x y v g h=>⟨g.sl h.1,h.2⟩)]
  (by kernel_rfl) (fun _=>GL.refl) (fun _ _ _ h g=>h.trans g) (fun _ _ h=>GL.grown h) (J9) (s6.grown ((Below.refl _ _).drew)) (by decide) (by kernel_rfl) (by kernel_rfl) (by kernel_rfl) (by kernel_rfl) (by kernel_rfl) (by kernel_rfl) (by kernel_rfl) (by kernel_rfl) ?_
 simp only[List.take_succ_cons,List.take_zero,Zo,Act.put,List.setIfInBounds_toArray,List.set_cons_zero,List.set_cons_succ]
 refine⟨?_,⟨?_,⟨?_,⟨?_,⟨?_,⟨?_,⟨?_,⟨?_,⟨?_,⟨?_,fun _=>⟨?_,fun _=>?_⟩⟩⟩⟩⟩⟩⟩⟩⟩⟩⟩
 . intro w' hg HF
   apply ol
   clear HF
   go_simp
   exact gl
 . intro w' hg HF
   apply ol
   clear HF
   go_simp
   exact gl
 . intro w' hg HF
   apply ol
   clear HF
   go_simp
   exact gl
 . intro w' hg HF
   apply ol
   clear HF
   go_simp
   exact gl
 . intro w' hg HF
   apply ol
   have k:=(uS _ hg).at0 23 rfl
   clear HF
   go_simp
   exact gl
 . intro w' hg HF
   apply ol
   clear HF
   go_simp
   exact gl
 . intro w' hg HF
   apply ol
   clear HF
   go_simp
   exact gl
 . intro w' hg HF
   apply ol
   clear HF
   go_simp
   exact gl
 . intro w' hg HF
   apply ol
   have a7:=uS _ hg
   have k5:=a7.at0 5 rfl
   have k6:=a7.at0 6 rfl
   have k7:=a7.at0 7 rfl
   have k8:=a7.at0 8 rfl
   have k9:=a7.at0 9 rfl
   have k10:=a7.at0 10 rfl
   have k11:=a7.at0 11 rfl
   have k12:=a7.at0 12 rfl
   have k13:=a7.at0 13 rfl
   have k14:=a7.at0 14 rfl
   have k15:=a7.at0 15 rfl
   have k16:=a7.at0 16 rfl
   have k17:=a7.at0 17 rfl
   have k18:=a7.at0 18 rfl
   have k19:=a7.at0 19 rfl
   have k20:=a7.at0 20 rfl
   have k21:=a7.at0 21 rfl
   have k22:=a7.at0 22 rfl
   clear HF
   go_simp
   exact gl
 . intro w' hg HF
   apply ol
   have yK:w6.heap.size<=w'.heap.size:=hg.on.size
   clear HF
   go_simp
   exact⟨Z7 (Below.refl _ _) _,_,rfl,yK,At.new _ _ ((d.done E H V St).end_ σ).l⟩
 . intro w' hg HF hP
   apply ol
   have yK:w6.heap.size<=w'.heap.size:=hg.on.size
   obtain⟨q,rfl,hq,aq⟩:=HF.1 (by kernel_rfl)
   clear HF
   have hs:Sl w' 55 18 tv (ts.map Td.l):=hP
   obtain⟨v',w'',hr,hS,hK,ho⟩:=hs.vJ (S:=48) Tryz.underlying48 Aq rfl (by decide) (by decide) q ((d.done E H V St).end_ σ).l rfl (fun u hu=>by simp only[Td.l,List.mem_cons,List.not_mem_nil,or_false] at hu;rcases hu with rfl | rfl | rfl | rfl | rfl | rfl | rfl | rfl | rfl | rfl | rfl | rfl | rfl | rfl | rfl | rfl | rfl | rfl <;> rfl) (fun j u hu=>aq.at0 j hu) (by simp;omega) 48
   exact Uw (.tmp 23) (.tmp 28) rfl rfl rfl hr ⟨hK,trivial⟩ ⟨hS,fun k hk=>(ho k hk).imp id (fun h=>Nat.le_trans yK h)⟩
 intro w7 hg hP HF
 obtain⟨⟨s7,o7⟩,-⟩:=HF
 have a7:=uS _ hg
 clear uS
 obtain⟨a8,cp8,rfl,-⟩:=s7.is
 generalize (ts.map Td.l ++ [((d.done E H V St).end_ σ).l]).length=N7 at s7 o7 ⊢
 have kf:=a7.fz
 have k23:=a7.at0 23 rfl
 have k4:=a7.at0 4 rfl
 go_wp2
 go_end0
 have rZ:Only (fun x=>x=b\/tv.ownBlock=some x) w ((w7.setCell ⟨b,23,none⟩ (.slice a8 N7 cp8)).setCell ⟨b,4,none⟩ .nilIface):=(((G6.mono fun x _ hx=>Or.inl hx).trans ((Only.Z5 ((Below.refl _ _).drew)).trans (hg.on.mono fun x _ hx=>Or.inr hx))).setCell (a:=⟨b,23,none⟩) (fun _=>Or.inl rfl) _).setCell (a:=⟨b,4,none⟩) (fun _=>Or.inl rfl) _
 have nJ:Only (fun x=>x=b) w7 ((w7.setCell ⟨b,23,none⟩ (.slice a8 N7 cp8)).setCell ⟨b,4,none⟩ .nilIface):=((Only.refl (fun x=>x=b) w7).setCell (a:=⟨b,23,none⟩) (fun _=>rfl) _).setCell (a:=⟨b,4,none⟩) (fun _=>rfl) _
 have a11:=(a7.ZQ 23 (.slice a8 N7 cp8)).ZQ 4 .nilIface
 have lc:∀ x,cv.ownBlock=some x->x<w.heap.size:=fun x hx=>hlt x (Or.inr (Or.inr (Or.inr (Or.inl hx))))
 have lt':∀ x,tv.ownBlock=some x->x<w.heap.size:=fun x hx=>hlt x (Or.inr (Or.inr (Or.inr (Or.inr hx))))
 have lp:=h3.AB
 have lq:=h3.Gt
 clear kf k23 k4
 generalize hW:(w7.setCell ⟨b,23,none⟩ (.slice a8 N7 cp8)).setCell ⟨b,4,none⟩ .nilIface=w8 at *
 clear hW
 generalize hv:Value.slice a8 N7 cp8=tv' at *
 clear hv
 refine⟨rfl,⟨b,Q,cv,tv'⟩,St,rfl,⟨⟨_,a11⟩,h1.only rZ (fun x hx hh=>?_),?_,h3.only rZ (fun hh=>?_) (fun hh=>?_),h4,h5,fun x hx=>?_,fun x hx=>?_,h8,?_⟩,rZ.mono fun x _ hx=>?_,fun x hx=>?_⟩
 . rcases hh with hh | hh
   . exact(h5 x hx).1 hh
   . exact(h6 x hh).2.2.2 hx
 . have:Sl w8 55 18 tv' (ts.map Td.l ++ [((d.done E H V St).end_ σ).l]):=s7.only nJ (fun x hx e=>by
    rcases o7 x hx with hh | hh
    . exact(h6 x hh).1 e
    . omega)
   simpa using this
 . rcases hh with hh | hh
   . exact h4.1 hh.symm
   . exact(h6 _ hh).2.1 rfl
 . rcases hh with hh | hh
   . exact h4.2 hh.symm
   . exact(h6 _ hh).2.2.1 rfl
 . rcases o7 x hx with hh | hh
   . exact h6 x hh
   . exact⟨(by show x≠b;omega),(by show x≠Q.p;omega),(by show x≠Q.c;omega),fun e=>by have:=lc x e;omega⟩
 . rcases hx with hx | hx | hx | hx | hx
   . exact h7 x (Or.inl hx)
   . exact h7 x (Or.inr (Or.inl hx))
   . exact h7 x (Or.inr (Or.inr (Or.inl hx)))
   . exact h7 x (Or.inr (Or.inr (Or.inr (Or.inl hx))))
   . rcases o7 x hx with hh | hh
     . exact h7 x (Or.inr (Or.inr (Or.inr (Or.inr hh))))
     . have:=h7 b (Or.inl rfl);omega
 . simp;omega
 . rcases hx with hx | hx
   . exact Or.inl hx
   . exact Or.inr (Or.inr (Or.inr (Or.inr hx)))
 . rcases hx with hx | hx | hx | hx | hx
   . exact Or.inl (Or.inl hx)
   . exact Or.inl (Or.inr (Or.inl hx))
   . exact Or.inl (Or.inr (Or.inr (Or.inl hx)))
   . exact Or.inl (Or.inr (Or.inr (Or.inr (Or.inl hx))))
   . rcases o7 x hx with hh | hh
     . exact Or.inl (Or.inr (Or.inr (Or.inr (Or.inr hh))))
     . exact Or.inr (by omega)
end
end
section
set_option maxRecDepth 20000
section
variable {w:World} {B0:Nat} {B:SS} {me:Int} {sp:Option Addr} {cs:List Wc} {qs:List Int} {d:Td} {ts:List Td}
set_option maxRecDepth 20000 in
set_option maxHeartbeats 4000000 in
theorem Ko {i:Nat} {cl:Wc} (h:XL w B0 B me sp cs ((i:Int) :: qs) .nilIface d ts) (hc:cs[i]?=some cl) (c0 c1 c2 c3 c4 c5 c6 who:Int) {L:Loc} {mv:Value} {H:Int} {σ:Nat} {Z:TypeId->Option Addr->World->Prop}
 (hr:∀ w1,Only (fun x=>x=B.Q.c) w w1->Calls Tryz.prog 42 #[cl.rf,mv] w1 fun e w'=>e=.returned (.int .u64 H)/\Below w1.heap.size w1 w')
 (Ti:∀ w1,Only (fun x=>x=B.b\/x=B.Q.c) w w1->Calls Tryz.prog 11 #[.agg #[.int .i64 c0,.int .i64 c1,.int .i64 c2,.int .i64 c3,.int .i64 c4,.int .i64 c5,.int .i64 c6,.pointer (some ⟨L.p,0,none⟩),.int .i64 who]] w1 fun e w'=>e=.returned (.int .i64 σ)/\Below w1.heap.size w1 w')
 (hw:∀ w1,Only (fun x=>x=B.b\/x=B.Q.c) w w1->Calls Tryz.prog 43 #[cl.v,.int .u64 H,.pointer sp] w1 fun e w'=>∃ T p,e=.returned (.iface T (.pointer p))/\Below w1.heap.size w1 w'/\Z T p w')
 (hZ:∀ T p x y,Z T p x->Grown x y->Z T p y) :
 Calls Tryz.prog 28 #[.pointer (some ⟨B.b,0,none⟩),.agg #[.int .i64 c0,.int .i64 c1,.int .i64 c2,.int .i64 c3,.int .i64 c4,.int .i64 c5,.int .i64 c6,.pointer (some ⟨L.p,0,none⟩),.int .i64 who],mv] w fun e w'=>e=.returned (.bool true)/\∃ T p w6,Z T p w6/\Only (fun x=>x=B.b) w6 w'/\XL w' B0 B me sp cs qs (.iface T (.pointer p)) ⟨me,i,cl,H,0,0,0,0,σ,0⟩ ts/\Only (fun x=>x=B.b\/x=B.Q.c) w w':=by
 obtain⟨b,Q,cv,tv⟩:=B
 have hlt:=h.lt
 obtain⟨⟨c,a⟩,h1,h2,h3,h4,h5,h6,h7,h8,h9⟩:=h
 simp only at a h1 h2 h3 h4 h5 h6 hr Ti hw ⊢
 have hbw:=a.lt
 have g0:=ZZ w (.cells #[.int .i64 c0,.int .i64 c1,.int .i64 c2,.int .i64 c3,.int .i64 c4,.int .i64 c5,.int .i64 c6,.pointer (some ⟨L.p,0,none⟩),.int .i64 who] 27)
 have v0:=ZP.new (w:=w) (P:=L.p) (c0:=c0) (c1:=c1) (c2:=c2) (c3:=c3) (c4:=c4) (c5:=c5) (c6:=c6) (who:=who) (T:=27)
 have a0:=a.grown g0
 have k3:=a0.at0 3 rfl
 have hp:=Hf (h3.below g0)
 have Gt:=h3.Gt
 have AB:=h3.AB
 obtain⟨ca,nN,qA,hs⟩:=h1.is
 obtain⟨cb,rfl,hcb,hcl⟩:=hs i cl.l (by simp[hc])
 have hil:i<cs.length:=(List.getElem?_eq_some_iff.1 hc).1
 have hlen:(cs.map Wc.l).length=cs.length:=by simp
 have hi1:(i:Int)<((cs.map Wc.l).length:Int):=by omega
 have hib:(0:Int)<=(i:Int)/\(i:Int)<((cs.map Wc.l).length:Int):=by omega
 have hi9:(i:Int)<=64:=by omega
 have hcv:cb≠b/\cb≠Q.p/\cb≠Q.c:=h5 cb (by rw[qA];rfl)
 clear hs hlen
 generalize hN:(cs.map Wc.l).length=N at *
 have ho:∀ w1,Only Q.has (w.alloc (.cells #[.int .i64 c0,.int .i64 c1,.int .i64 c2,.int .i64 c3,.int .i64 c4,.int .i64 c5,.int .i64 c6,.pointer (some ⟨L.p,0,none⟩),.int .i64 who] 27)) w1->Only (fun x=>x=b\/x=Q.c) w w1:=fun w1 o=>(Only.Z5 g0).trans (o.mono fun x _ hx=>Or.inr hx)
 go_enter Tryz.func28,Tryz.ntmps28
 go_wp2_with (first
  | (go_at_call 41;refine hp.mono ?_;rintro e w1 ⟨rfl,q1,o1,z1⟩;have O1:=ho _ o1;have a1:=a0.only o1 (fun e=>h4.2 e);have k1:=a1.at0 1 rfl;rw[qA] at k1;have v1:=v0.only o1 (by show ¬ w.heap.size=Q.c;omega);have m0:=((Only.Z5 (S:=Q.has) g0).trans o1).cell (p:=⟨cb,i * 9+0,none⟩) (by show cb<w.heap.size;exact hcb) hcv.2.2;have m1:=((Only.Z5 (S:=Q.has) g0).trans o1).cell (p:=⟨cb,i * 9+1,none⟩) (by show cb<w.heap.size;exact hcb) hcv.2.2;have m2:=((Only.Z5 (S:=Q.has) g0).trans o1).cell (p:=⟨cb,i * 9+2,none⟩) (by show cb<w.heap.size;exact hcb) hcv.2.2;have m3:=((Only.Z5 (S:=Q.has) g0).trans o1).cell (p:=⟨cb,i * 9+3,none⟩) (by show cb<w.heap.size;exact hcb) hcv.2.2;have m4:=((Only.Z5 (S:=Q.has) g0).trans o1).cell (p:=⟨cb,i * 9+4,none⟩) (by show cb<w.heap.size;exact hcb) hcv.2.2;have m5:=((Only.Z5 (S:=Q.has) g0).trans o1).cell (p:=⟨cb,i * 9+5,none⟩) (by show cb<w.heap.size;exact hcb) hcv.2.2;have m6:=((Only.Z5 (S:=Q.has) g0).trans o1).cell (p:=⟨cb,i * 9+6,none⟩) (by show cb<w.heap.size;exact hcb) hcv.2.2;have m7:=((Only.Z5 (S:=Q.has) g0).trans o1).cell (p:=⟨cb,i * 9+7,none⟩) (by show cb<w.heap.size;exact hcb) hcv.2.2;have m8:=((Only.Z5 (S:=Q.has) g0).trans o1).cell (p:=⟨cb,i * 9+8,none⟩) (by show cb<w.heap.size;exact hcb) hcv.2.2;rw[hcl 0 _ rfl] at m0;rw[hcl 1 _ rfl] at m1;rw[hcl 2 _ rfl] at m2;rw[hcl 3 _ rfl] at m3;rw[hcl 4 _ rfl] at m4;rw[hcl 5 _ rfl] at m5;rw[hcl 6 _ rfl] at m6;rw[hcl 7 _ rfl] at m7;rw[hcl 8 _ rfl] at m8;rw[Nat.add_zero] at m0)
  | (go_at_call 42;refine(hr _ (((Only.Z5 g0).trans (o1.mono fun x _ hx=>hx)).trans (Only.Z5 (ZZ w1 (.cells #[.int .i64 cl.kd,.int .i64 cl.sz,.int .i64 cl.rt,.int .i64 cl.ra,.int .u64 cl.rr,.int .i64 cl.ix,.int .i64 cl.vl,.int .i64 cl.ol,.int .i64 cl.ky] 45))))).mono ?_;rintro e w2 ⟨rfl,g2⟩))
 have O2:Only (fun x=>x=b\/x=Q.c) w w2:=O1.trans (Only.Z5 (grow (ZZ _ _) g2))
 have uT:=grow (ZZ w1 (.cells #[.int .i64 cl.kd,.int .i64 cl.sz,.int .i64 cl.rt,.int .i64 cl.ra,.int .u64 cl.rr,.int .i64 cl.ix,.int .i64 cl.vl,.int .i64 cl.ol,.int .i64 cl.ky] 45)) g2
 have a2:=a1.grown uT
 have v2:=v1.grown uT
 have q2:=q1.below uT
 have x2:=(OX.new cl w1).grown g2
 have z2:w1.heap.size=w.heap.size+1:=z1.trans (Go.Deep.nblk_alloc _ _)
 rw[z2] at x2
 have hz2:w.heap.size+1<w2.heap.size:=by have:=x2.lt;exact this
 clear uT g2 a1 v1 q1 k1 o1 O1 ho hp m0 m1 m2 m3 m4 m5 m6 m7 m8 v0 a0 k3
 refine ZK Grown 13 [.val (.pointer (some ⟨b,0,none⟩)),.val (.pointer (some ⟨b,0,none⟩)),.val (.pointer (some ⟨b,0,none⟩)),.val (.pointer (some ⟨b,0,none⟩)),.val (.int .i64 me),.val (.int .i64 i),.val (cl.v),.val (.int .u64 H),.val (.agg #[.int .i64 c0,.int .i64 c1,.int .i64 c2,.int .i64 c3,.int .i64 c4,.int .i64 c5,.int .i64 c6,.pointer (some ⟨L.p,0,none⟩),.int .i64 who]),.val (.int .i64 σ),.val (.agg #[.int .i64 me,.int .i64 i,.int .i64 cl.kd,.int .i64 cl.sz,.int .i64 cl.rt,.int .i64 cl.ra,.int .u64 cl.rr,.int .i64 cl.ix,.int .i64 cl.vl,.int .i64 cl.ol,.int .i64 cl.ky,.int .u64 H,.int .i64 0,.int .u64 0,.int .i64 0,.int .i64 0,.int .i64 σ,.int .i64 0]),.val (.pointer (some ⟨b,0,none⟩)),.val (.pointer (some ⟨b,5,none⟩))] (by kernel_rfl) Grown.refl Grown.trans (by decide) (by kernel_rfl) (by kernel_rfl) (by kernel_rfl) (by kernel_rfl) (by kernel_rfl) (by kernel_rfl) ?_
 simp only[List.take_succ_cons,List.take_zero,ZH,Act.put,List.setIfInBounds_toArray,List.set_cons_zero,List.set_cons_succ]
 refine⟨?_,⟨?_,⟨?_,⟨?_,⟨?_,⟨?_,⟨?_,⟨?_,⟨?_,⟨?_,⟨?_,⟨?_,⟨?_,?_⟩⟩⟩⟩⟩⟩⟩⟩⟩⟩⟩⟩⟩
 . intro w' hg HF
   apply ol
   clear HF
   go_simp
   exact gl
 . intro w' hg HF
   apply ol
   clear HF
   go_simp
   exact gl
 . intro w' hg HF
   apply ol
   clear HF
   go_simp
   exact gl
 . intro w' hg HF
   apply ol
   clear HF
   go_simp
   exact gl
 . intro w' hg HF
   apply ol
   have k:=(a2.drew.grown hg).at0 0 rfl
   clear HF
   go_simp
   exact gl
 . intro w' hg HF
   apply ol
   clear HF
   go_simp
   exact gl
 . intro w' hg HF
   apply ol
   have x3:=x2.drew.grown hg
   have t0:=x3.at0 0 rfl
   have t1:=x3.at0 1 rfl
   have t2:=x3.at0 2 rfl
   have t3:=x3.at0 3 rfl
   have t4:=x3.at0 4 rfl
   have t5:=x3.at0 5 rfl
   have t6:=x3.at0 6 rfl
   have t7:=x3.at0 7 rfl
   have t8:=x3.at0 8 rfl
   clear HF
   go_simp
   exact gl
 . intro w' hg HF
   apply ol
   clear HF
   go_simp
   exact gl
 . intro w' hg HF
   apply ol
   obtain⟨y0,y1,y2,y3,y4,y5,y6,y7,y8⟩:=(v2.grown ((Below.refl _ _).drew)).grown hg
   clear HF
   go_simp
   exact gl
 . intro w' hg HF
   apply ol
   have hn1:=Ti _ (O2.trans (Only.Z5 (grow ((Below.refl _ _).drew) hg)))
   clear HF
   go_simp
   refine hn1.mono ?_
   rintro e w'' ⟨rfl,g9⟩
   exact⟨_,rfl,g9,rfl⟩
 . intro w' hg HF
   apply ol
   clear HF
   go_simp
   exact gl
 . intro w' hg HF
   apply ol
   clear HF
   go_simp
   exact gl
 . intro w' hg HF
   apply ol
   clear HF
   go_simp
   exact gl
 intro w3 hg _
 have vO:=grow ((Below.refl w2.heap.size w2).drew) hg
 have a3:=a2.grown vO
 have x3:=x2.grown vO
 have q3:=q2.below vO
 have O3:Only (fun x=>x=b\/x=Q.c) w w3:=O2.trans (Only.Z5 vO)
 have kf:=a3.fz
 have k5:=a3.at0 5 rfl
 have k6:=a3.at0 6 rfl
 have k7:=a3.at0 7 rfl
 have k8:=a3.at0 8 rfl
 have k9:=a3.at0 9 rfl
 have k10:=a3.at0 10 rfl
 have k11:=a3.at0 11 rfl
 have k12:=a3.at0 12 rfl
 have k13:=a3.at0 13 rfl
 have k14:=a3.at0 14 rfl
 have k15:=a3.at0 15 rfl
 have k16:=a3.at0 16 rfl
 have k17:=a3.at0 17 rfl
 have k18:=a3.at0 18 rfl
 have k19:=a3.at0 19 rfl
 have k20:=a3.at0 20 rfl
 have k21:=a3.at0 21 rfl
 have k22:=a3.at0 22 rfl
 clear a2 x2 q2 v2 vO hg
 go_wp2
 refine ZT (fun W=>Only (fun x=>x=b) w3 W/\∃ c,At W b 0 71 c (Aw me cv sp Q.p .nilIface ⟨me,i,cl,H,0,0,0,0,σ,0⟩ tv)) ⟨((((((((((((((((((((((((((((((((((((Only.refl (fun x=>x=b) w3).setCell (a:=⟨b,5,none⟩) (fun _=>rfl) (.int .i64 me))).setCell (a:=⟨b,6,none⟩) (fun _=>rfl) (.int .i64 i))).setCell (a:=⟨b,7,none⟩) (fun _=>rfl) (.int .i64 cl.kd))).setCell (a:=⟨b,8,none⟩) (fun _=>rfl) (.int .i64 cl.sz))).setCell (a:=⟨b,9,none⟩) (fun _=>rfl) (.int .i64 cl.rt))).setCell (a:=⟨b,10,none⟩) (fun _=>rfl) (.int .i64 cl.ra))).setCell (a:=⟨b,11,none⟩) (fun _=>rfl) (.int .u64 cl.rr))).setCell (a:=⟨b,12,none⟩) (fun _=>rfl) (.int .i64 cl.ix))).setCell (a:=⟨b,13,none⟩) (fun _=>rfl) (.int .i64 cl.vl))).setCell (a:=⟨b,14,none⟩) (fun _=>rfl) (.int .i64 cl.ol))).setCell (a:=⟨b,15,none⟩) (fun _=>rfl) (.int .i64 cl.ky))).setCell (a:=⟨b,16,none⟩) (fun _=>rfl) (.int .u64 H))).setCell (a:=⟨b,17,none⟩) (fun _=>rfl) (.int .i64 0))).setCell (a:=⟨b,18,none⟩) (fun _=>rfl) (.int .u64 0))).setCell (a:=⟨b,19,none⟩) (fun _=>rfl) (.int .i64 0))).setCell (a:=⟨b,20,none⟩) (fun _=>rfl) (.int .i64 0))).setCell (a:=⟨b,21,none⟩) (fun _=>rfl) (.int .i64 σ))).setCell (a:=⟨b,22,none⟩) (fun _=>rfl) (.int .i64 0)),_,((((((((((((((((((a3.ZQ 5 (.int .i64 me)).ZQ 6 (.int .i64 i)).ZQ 7 (.int .i64 cl.kd)).ZQ 8 (.int .i64 cl.sz)).ZQ 9 (.int .i64 cl.rt)).ZQ 10 (.int .i64 cl.ra)).ZQ 11 (.int .u64 cl.rr)).ZQ 12 (.int .i64 cl.ix)).ZQ 13 (.int .i64 cl.vl)).ZQ 14 (.int .i64 cl.ol)).ZQ 15 (.int .i64 cl.ky)).ZQ 16 (.int .u64 H)).ZQ 17 (.int .i64 0)).ZQ 18 (.int .u64 0)).ZQ 19 (.int .i64 0)).ZQ 20 (.int .i64 0)).ZQ 21 (.int .i64 σ)).ZQ 22 (.int .i64 0))⟩ ?_
 rintro w4 ⟨o4,mf,a4⟩
 clear a3 kf k5 k6 k7 k8 k9 k10 k11 k12 k13 k14 k15 k16 k17 k18 k19 k20 k21 k22
 have O4:Only (fun x=>x=b\/x=Q.c) w w4:=O3.trans (o4.mono fun x _ hx=>Or.inl hx)
 have x4:=x3.only o4 (by omega)
 have q4:=q3.only o4 (fun e=>h4.1 e.symm) (fun e=>h4.2 e.symm)
 refine ZK Grown 8 [.val (.pointer (some ⟨b,0,none⟩)),.val (cl.v),.val (.int .u64 H),.val (.pointer (some ⟨b,0,none⟩)),.val (.pointer (some ⟨b,0,none⟩)),.val (.pointer (some ⟨b,2,none⟩)),.val (.pointer sp),.that (fun W v=>∃ T p,v=.iface T (.pointer p)/\Z T p W) (fun x y v g ⟨T,p,e,z⟩=>⟨T,p,e,hZ T p x y z g⟩)] (by kernel_rfl) Grown.refl Grown.trans (by decide) (by kernel_rfl) (by kernel_rfl) (by kernel_rfl) (by kernel_rfl) (by kernel_rfl) (by kernel_rfl) ?_
 simp only[List.take_succ_cons,List.take_zero,ZH,Act.put,List.setIfInBounds_toArray,List.set_cons_zero,List.set_cons_succ]
 refine⟨?_,⟨?_,⟨?_,⟨?_,⟨?_,⟨?_,⟨?_,⟨?_,fun _=>?_⟩⟩⟩⟩⟩⟩⟩⟩
 . intro w' hg HF
   apply ol
   clear HF
   go_simp
   exact gl
 . intro w' hg HF
   apply ol
   have x3:=x4.drew.grown hg
   have t0:=x3.at0 0 rfl
   have t1:=x3.at0 1 rfl
   have t2:=x3.at0 2 rfl
   have t3:=x3.at0 3 rfl
   have t4:=x3.at0 4 rfl
   have t5:=x3.at0 5 rfl
   have t6:=x3.at0 6 rfl
   have t7:=x3.at0 7 rfl
   have t8:=x3.at0 8 rfl
   clear HF
   go_simp
   exact gl
 . intro w' hg HF
   apply ol
   clear HF
   go_simp
   exact gl
 . intro w' hg HF
   apply ol
   clear HF
   go_simp
   exact gl
 . intro w' hg HF
   apply ol
   clear HF
   go_simp
   exact gl
 . intro w' hg HF
   apply ol
   clear HF
   go_simp
   exact gl
 . intro w' hg HF
   apply ol
   have k:=(a4.drew.grown hg).at0 2 rfl
   clear HF
   go_simp
   exact gl
 . intro w' hg HF
   apply ol
   have hw1:=hw _ (O4.trans (Only.Z5 (grow ((Below.refl _ _).drew) hg)))
   clear HF
   go_simp
   refine hw1.mono ?_
   rintro e w'' ⟨T,p,rfl,g9,z9⟩
   exact⟨_,rfl,g9,T,p,rfl,z9⟩
 intro w6 hg HF
 obtain⟨⟨T,p,rfl,z6⟩,-⟩:=HF
 have su:=grow ((Below.refl w4.heap.size w4).drew) hg
 have a6:=a4.grown su
 have q6:=q4.below su
 have O6:Only (fun x=>x=b\/x=Q.c) w w6:=O4.trans (Only.Z5 su)
 have kf:=a6.fz
 have k4:=a6.at0 4 rfl
 go_wp2
 go_ret
 have o7:Only (fun x=>x=b) w6 (w6.setCell ⟨b,4,none⟩ (.iface T (.pointer p))):=(Only.refl (fun x=>x=b) w6).setCell (a:=⟨b,4,none⟩) (fun _=>rfl) _
 have O7:Only (fun x=>x=b\/x=Q.c) w (w6.setCell ⟨b,4,none⟩ (.iface T (.pointer p))):=O6.trans (o7.mono fun x _ hx=>Or.inl hx)
 have a7:=a6.ZQ 4 (.iface T (.pointer p))
 have q7:=q6.only o7 (fun e=>h4.1 e.symm) (fun e=>h4.2 e.symm)
 refine⟨rfl,T,p,w6,z6,o7,⟨⟨_,a7⟩,h1.only O7 (fun x hx hh=>?_),h2.only O7 (fun x hx hh=>?_),q7,h4,h5,h6,h7,h8,h9⟩,O7⟩
 . rcases hh with hh | hh
   . exact(h5 x hx).1 hh
   . exact(h5 x hx).2.2 hh
 . rcases hh with hh | hh
   . exact(h6 x hx).1 hh
   . exact(h6 x hx).2.2.1 hh
end
end
section
set_option maxRecDepth 20000
def Dr (B:SS) (c0 c1 c2 c3 c4 c5 c6 who:Int) (L:Loc) (bx:Nat) (T:TypeId) (p:Option Addr) (w:World) (Z:Bool->World->Prop) (D:Int->Int->Int->Nat->World->Prop):Prop :=
 ∃ (f g:FuncId) (SD:Nat->Prop),(∀ x,SD x->¬ B.has x/\x≠bx)/\(∀ w,(method 351 T (.pointer p) "Step").run Tryz.prog w=.ok (f,.pointer p) w)/\(∀ args w,(callFunc f args).run Tryz.prog w=.ok (.enter f args) w) /\
  (∀ w,(method 351 T (.pointer p) "Done").run Tryz.prog w=.ok (g,.pointer p) w)/\(∀ args w,(callFunc g args).run Tryz.prog w=.ok (.enter g args) w) /\
  (∀ w1,Below w.heap.size w w1->Calls Tryz.prog f #[.pointer p,.agg #[.int .i64 c0,.int .i64 c1,.int .i64 c2,.int .i64 c3,.int .i64 c4,.int .i64 c5,.int .i64 c6,.pointer (some ⟨L.p,0,none⟩),.int .i64 who]] w1 fun e w'=>∃ dn,e=.returned (.bool dn)/\Only SD w1 w'/\Z dn w') /\
  (∀ w',Z true w'->∃ E H V σ,D E H V σ w'/\(∀ w1,Only (fun x=>x=B.b) w' w1->Calls Tryz.prog g #[.pointer p] w1 fun e w2=>∃ St,e=.returned (.agg #[.int .i64 E,.int .u64 H,.int .i64 V,.int .i64 St])/\Below w1.heap.size w1 w2) /\
   (∀ w1,Only (fun x=>x=B.b) w' w1->Calls Tryz.prog 11 #[.agg #[.int .i64 c0,.int .i64 c1,.int .i64 c2,.int .i64 c3,.int .i64 c4,.int .i64 c5,.int .i64 c6,.pointer (some ⟨L.p,0,none⟩),.int .i64 who]] w1 fun e w2=>e=.returned (.int .i64 σ)/\Below w1.heap.size w1 w2))
def rX (w w':World) (B0:Nat) (B:SS) (me:Int) (sp:Option Addr) (cs:List Wc) (qs:List Int) (T:TypeId) (p:Option Addr) (d:Td) (ts:List Td) (Z:Bool->World->Prop) (D:Int->Int->Int->Nat->World->Prop):Prop :=
 ∃ w6 dn,Z dn w6/\w.heap.size<=w6.heap.size/\((dn=false/\w'=w6/\XL w' B0 B me sp cs qs (.iface T (.pointer p)) d ts) \/
  (dn=true/\Only B.has w6 w'/\∃ (B':SS) (E H V St:Int) (σ:Nat),D E H V σ w6/\B'.b=B.b/\XL w' B0 B' me sp cs qs .nilIface ((d.done E H V St).end_ σ) (ts ++ [(d.done E H V St).end_ σ])/\∀ x,B'.has x->B.has x\/w.heap.size<=x))
section
variable {w:World} {B0:Nat} {B:SS} {me:Int} {sp:Option Addr} {cs:List Wc} {qs:List Int} {d:Td} {ts:List Td}
set_option maxRecDepth 20000 in
set_option maxHeartbeats 4000000 in
theorem J8 {T:TypeId} {p:Option Addr} {Z:Bool->World->Prop} {D:Int->Int->Int->Nat->World->Prop} (h:XL w B0 B me sp cs qs (.iface T (.pointer p)) d ts) (hN:ts.length<64) (c0 c1 c2 c3 c4 c5 c6 who:Int) {L:Loc} (mv:Value) (R:∀ w1,Below w.heap.size w w1->Dr B c0 c1 c2 c3 c4 c5 c6 who L w.heap.size T p w1 Z D) :
 Calls Tryz.prog 13 #[.pointer (some ⟨B.b,0,none⟩),.agg #[.int .i64 c0,.int .i64 c1,.int .i64 c2,.int .i64 c3,.int .i64 c4,.int .i64 c5,.int .i64 c6,.pointer (some ⟨L.p,0,none⟩),.int .i64 who],mv] w fun e w'=>e=.returned (.bool true)/\rX w w' B0 B me sp cs qs T p d ts Z D:=by
 have g0:=ZZ w (.cells #[.int .i64 c0,.int .i64 c1,.int .i64 c2,.int .i64 c3,.int .i64 c4,.int .i64 c5,.int .i64 c6,.pointer (some ⟨L.p,0,none⟩),.int .i64 who] 27)
 have v0:=ZP.new (w:=w) (P:=L.p) (c0:=c0) (c1:=c1) (c2:=c2) (c3:=c3) (c4:=c4) (c5:=c5) (c6:=c6) (who:=who) (T:=27)
 have h0:=h.grown g0
 have hi:=GU h0
 clear h0
 obtain⟨b,Q,cv,tv⟩:=B
 go_enter Tryz.func13,Tryz.ntmps13
 go_wp2_with (go_at_call 15;refine hi.mono ?_;rintro e w1 ⟨rfl,rfl⟩)
 refine ZT (fun W=>Below w.heap.size w W/\ZP W w.heap.size c0 c1 c2 c3 c4 c5 c6 L.p who) ⟨g0,v0⟩ ?_
 rintro W ⟨g1,v1⟩
 clear g0 v0 hi
 have h1:=h.grown g1
 obtain⟨c,a1⟩:=h1.at_
 have R:=R W g1
 have HW:=g1.size
 obtain⟨f,g,SD,hSD,hms,hes,hmd,rH,hst,rG⟩:=R
 refine ZK Grown 5 [.val (.pointer (some ⟨b,0,none⟩)),.val (.pointer (some ⟨b,0,none⟩)),.val (.pointer (some ⟨b,4,none⟩)),.val (.iface T (.pointer p)),.val (.agg #[.int .i64 c0,.int .i64 c1,.int .i64 c2,.int .i64 c3,.int .i64 c4,.int .i64 c5,.int .i64 c6,.pointer (some ⟨L.p,0,none⟩),.int .i64 who])] (by kernel_rfl) Grown.refl Grown.trans (by decide) (by kernel_rfl) (by kernel_rfl) (by kernel_rfl) (by kernel_rfl) (by kernel_rfl) (by kernel_rfl) ?_
 simp only[List.take_succ_cons,List.take_zero,ZH,Act.put,List.setIfInBounds_toArray,List.set_cons_zero,List.set_cons_succ]
 refine⟨?_,⟨?_,⟨?_,⟨?_,⟨?_,?_⟩⟩⟩⟩⟩
 . intro w' hg HF
   apply ol
   clear HF
   go_simp
   exact gl
 . intro w' hg HF
   apply ol
   clear HF
   go_simp
   exact gl
 . intro w' hg HF
   apply ol
   clear HF
   go_simp
   exact gl
 . intro w' hg HF
   apply ol
   have k:=(a1.drew.grown hg).at0 4 rfl
   clear HF
   go_simp
   exact gl
 . intro w' hg HF
   apply ol
   obtain⟨y0,y1,y2,y3,y4,y5,y6,y7,y8⟩:=(v1.grown ((Below.refl _ _).drew)).grown hg
   clear HF
   go_simp
   exact gl
 intro w5 hg _
 have G5:Below W.heap.size W w5:=grow ((Below.refl _ _).drew) hg
 have h5:=h1.grown G5
 have v5:=v1.grown G5
 clear a1 v1
 go_wp2_with (first
  | (go_at_call 29;obtain⟨E,H,V,σ,hD,hd1,hn1⟩:=rG _ hz;refine(Na h6 hN c0 c1 c2 c3 c4 c5 c6 who (L:=L) hmd rH hd1 hn1).mono ?_;rintro e w7 ⟨rfl,B',St,eb,h7,o7,n7⟩)
  | (refine(hst _ G5).mono ?_;rintro e w6 ⟨dn,rfl,o6,hz⟩;have h6:=h5.only o6 (fun x hx hh=>(hSD x hh).1 hx);have v6:=v5.only o6 (fun hh=>(hSD _ hh).2 rfl);obtain⟨y0,y1,y2,y3,y4,y5,y6,y7,y8⟩:=id v6;cases dn))
 . go_ret
   exact⟨rfl,_,false,hz,Nat.le_trans HW (Nat.le_trans G5.size o6.size),Or.inl ⟨rfl,rfl,h6⟩⟩
 . go_ret
   exact⟨rfl,_,true,hz,Nat.le_trans HW (Nat.le_trans G5.size o6.size),Or.inr ⟨rfl,o7,B',E,H,V,St,σ,hD,eb,h7,fun x hx=>(n7 x hx).imp id (fun h=>Nat.le_trans HW (Nat.le_trans G5.size (Nat.le_trans o6.size h)))⟩⟩
set_option maxRecDepth 20000 in
set_option maxHeartbeats 4000000 in
theorem TA {i:Nat} {cl:Wc} {Zb:TypeId->Option Addr->World->Prop} {Z:TypeId->Option Addr->Bool->World->Prop} {D:Int->Int->Int->Nat->World->Prop} (h:XL w B0 B me sp cs ((i:Int) :: qs) .nilIface d ts) (hc:cs[i]?=some cl) (hN:ts.length<64) (c0 c1 c2 c3 c4 c5 c6 who:Int) {L:Loc} {mv:Value} {H0:Int} {σ0:Nat}
 (hr:∀ w1,Only (fun x=>x=B.Q.c) w w1->w.heap.size<w1.heap.size->Calls Tryz.prog 42 #[cl.rf,mv] w1 fun e w'=>e=.returned (.int .u64 H0)/\Below w1.heap.size w1 w')
 (Ti:∀ w1,Only (fun x=>x=B.b\/x=B.Q.c) w w1->w.heap.size<w1.heap.size->Calls Tryz.prog 11 #[.agg #[.int .i64 c0,.int .i64 c1,.int .i64 c2,.int .i64 c3,.int .i64 c4,.int .i64 c5,.int .i64 c6,.pointer (some ⟨L.p,0,none⟩),.int .i64 who]] w1 fun e w'=>e=.returned (.int .i64 σ0)/\Below w1.heap.size w1 w')
 (hw:∀ w1,Only (fun x=>x=B.b\/x=B.Q.c) w w1->w.heap.size<w1.heap.size->Calls Tryz.prog 43 #[cl.v,.int .u64 H0,.pointer sp] w1 fun e w'=>∃ T p,e=.returned (.iface T (.pointer p))/\Below w1.heap.size w1 w'/\Zb T p w')
 (hZ:∀ T p x y,Zb T p x->Grown x y->Zb T p y)
 (R:∀ T p w6 w7,Zb T p w6->Only (fun x=>x=B.b) w6 w7->w.heap.size<w7.heap.size->Only (fun x=>x=B.b\/x=B.Q.c) w w7->Dr B c0 c1 c2 c3 c4 c5 c6 who L w.heap.size T p w7 (Z T p) D) :
 Calls Tryz.prog 13 #[.pointer (some ⟨B.b,0,none⟩),.agg #[.int .i64 c0,.int .i64 c1,.int .i64 c2,.int .i64 c3,.int .i64 c4,.int .i64 c5,.int .i64 c6,.pointer (some ⟨L.p,0,none⟩),.int .i64 who],mv] w fun e w'=>e=.returned (.bool true)/\∃ T p,rX w w' B0 B me sp cs qs T p ⟨me,i,cl,H0,0,0,0,0,σ0,0⟩ ts (Z T p) D:=by
 have g0:=ZZ w (.cells #[.int .i64 c0,.int .i64 c1,.int .i64 c2,.int .i64 c3,.int .i64 c4,.int .i64 c5,.int .i64 c6,.pointer (some ⟨L.p,0,none⟩),.int .i64 who] 27)
 have v0:=ZP.new (w:=w) (P:=L.p) (c0:=c0) (c1:=c1) (c2:=c2) (c3:=c3) (c4:=c4) (c5:=c5) (c6:=c6) (who:=who) (T:=27)
 have z0:(w.alloc (.cells #[.int .i64 c0,.int .i64 c1,.int .i64 c2,.int .i64 c3,.int .i64 c4,.int .i64 c5,.int .i64 c6,.pointer (some ⟨L.p,0,none⟩),.int .i64 who] 27)).heap.size=w.heap.size+1:=Go.Deep.nblk_alloc _ _
 have h0:=h.grown g0
 have hi:=Nc h0
 have hb:=Ko h0 hc c0 c1 c2 c3 c4 c5 c6 who (L:=L) (mv:=mv) (H:=H0) (σ:=σ0) (Z:=Zb) (fun w1 o=>hr w1 ((Only.Z5 g0).trans o) (by have:=o.size;omega)) (fun w1 o=>Ti w1 ((Only.Z5 g0).trans o) (by have:=o.size;omega)) (fun w1 o=>hw w1 ((Only.Z5 g0).trans o) (by have:=o.size;omega)) hZ
 have hlq:B.Q.c<w.heap.size:=h.qu.Gt
 have hlb:B.b<w.heap.size:=h.lt _ (Or.inl rfl)
 clear h0 hr Ti hw
 obtain⟨b,Q,cv,tv⟩:=B
 go_enter Tryz.func13,Tryz.ntmps13
 go_wp2_with (first
  | (go_at_call 15;refine hi.mono ?_;rintro e w1 ⟨rfl,rfl⟩)
  | (go_at_call 28;refine hb.mono ?_;rintro e w1 ⟨rfl,T,p,w9,z9,o9,h1,o1⟩))
 have O1:Only (fun x=>x=b\/x=Q.c) w w1:=(Only.Z5 g0).trans o1
 have s1:w.heap.size<w1.heap.size:=by have:=o1.size;omega
 have v1:=v0.only o1 (by show ¬ (w.heap.size=b\/w.heap.size=Q.c);have:Q.c<w.heap.size:=hlq;have:b<w.heap.size:=hlb;omega)
 have R:=R T p w9 w1 z9 o9 s1 O1
 clear g0 v0 hi hb
 obtain⟨c,a1⟩:=h1.at_
 have HW:w.heap.size<=w1.heap.size:=by omega
 obtain⟨f,g,SD,hSD,hms,hes,hmd,rH,hst,rG⟩:=R
 refine ZK Grown 5 [.val (.pointer (some ⟨b,0,none⟩)),.val (.pointer (some ⟨b,0,none⟩)),.val (.pointer (some ⟨b,4,none⟩)),.val (.iface T (.pointer p)),.val (.agg #[.int .i64 c0,.int .i64 c1,.int .i64 c2,.int .i64 c3,.int .i64 c4,.int .i64 c5,.int .i64 c6,.pointer (some ⟨L.p,0,none⟩),.int .i64 who])] (by kernel_rfl) Grown.refl Grown.trans (by decide) (by kernel_rfl) (by kernel_rfl) (by kernel_rfl) (by kernel_rfl) (by kernel_rfl) (by kernel_rfl) ?_
 simp only[List.take_succ_cons,List.take_zero,ZH,Act.put,List.setIfInBounds_toArray,List.set_cons_zero,List.set_cons_succ]
 refine⟨?_,⟨?_,⟨?_,⟨?_,⟨?_,?_⟩⟩⟩⟩⟩
 . intro w' hg HF
   apply ol
   clear HF
   go_simp
   exact gl
 . intro w' hg HF
   apply ol
   clear HF
   go_simp
   exact gl
 . intro w' hg HF
   apply ol
   clear HF
   go_simp
   exact gl
 . intro w' hg HF
   apply ol
   have k:=(a1.drew.grown hg).at0 4 rfl
   clear HF
   go_simp
   exact gl
 . intro w' hg HF
   apply ol
   obtain⟨y0,y1,y2,y3,y4,y5,y6,y7,y8⟩:=(v1.grown ((Below.refl _ _).drew)).grown hg
   clear HF
   go_simp
   exact gl
 intro w5 hg _
 have G5:Below w1.heap.size w1 w5:=grow ((Below.refl _ _).drew) hg
 have h5:=h1.grown G5
 have v5:=v1.grown G5
 clear a1 v1
 go_wp2_with (first
  | (go_at_call 29;obtain⟨E,H,V,σ,hD,hd1,hn1⟩:=rG _ hz;refine(Na h6 hN c0 c1 c2 c3 c4 c5 c6 who (L:=L) hmd rH hd1 hn1).mono ?_;rintro e w7 ⟨rfl,B',St,eb,h7,o7,n7⟩)
  | (refine(hst _ G5).mono ?_;rintro e w6 ⟨dn,rfl,o6,hz⟩;have h6:=h5.only o6 (fun x hx hh=>(hSD x hh).1 hx);have v6:=v5.only o6 (fun hh=>(hSD _ hh).2 rfl);obtain⟨y0,y1,y2,y3,y4,y5,y6,y7,y8⟩:=id v6;cases dn))
 . go_ret
   exact⟨rfl,T,p,_,false,hz,Nat.le_trans HW (Nat.le_trans G5.size o6.size),Or.inl ⟨rfl,rfl,h6⟩⟩
 . go_ret
   exact⟨rfl,T,p,_,true,hz,Nat.le_trans HW (Nat.le_trans G5.size o6.size),Or.inr ⟨rfl,o7,B',E,H,V,St,σ,hD,eb,h7,fun x hx=>(n7 x hx).imp id (fun h=>Nat.le_trans HW (Nat.le_trans G5.size (Nat.le_trans o6.size h)))⟩⟩
end
end
end Go.Proofs.YtgehjolndmgffaaGreat
