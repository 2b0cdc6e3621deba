import Derived.Test.YtgehjolndmgffaaGreatAbb
import Derived.Test.YtgehjolndmgffaaGreatRows
import Derived.Test.YtgehjolndmgffaaGreatLay
namespace Go.Proofs.YtgehjolndmgffaaGreat
open Go.RowKit
section
structure Mm where
 n:Nat
 wd:Nat->Int
 wn:Nat->Int
 who:Int
 steps:Int
 la:Int
 lw:Int
 lc:Bool
structure Loc where
 p:Nat
 bw:Nat
 bn:Nat
def Loc.has (L:Loc) (k:Nat):Prop:=k=L.p\/k=L.bw\/k=L.bn
def Mm.cells (L:Loc) (s:Mm):Array Value :=
 #[.slice (some ⟨L.bw,0,none⟩) s.n s.n,.slice (some ⟨L.bn,0,none⟩) s.n s.n,iV s.who,iV s.steps,iV s.la,iV s.lw,.bool s.lc]
structure Z8 (w:World) (L:Loc) (s:Mm):Prop where
 obj:w.heap[L.p]?=some (.cells (s.cells L) 94 (0,0))
 words:w.rowIs L.bw 41 s.n (fun i=>.int .u64 (s.wd i))
 AO:w.rowIs L.bn 3 s.n (fun i=>iV (s.wn i))
 d1:L.p≠L.bw
 d2:L.p≠L.bn
 d3:L.bw≠L.bn
 len:s.n<=1048576
namespace Z8
variable {w w':World} {L:Loc} {s:Mm}
theorem c0 (h:Z8 w L s):w.cell? ⟨L.p,0,none⟩=some (.slice (some ⟨L.bw,0,none⟩) s.n s.n):=ZW h.obj rfl
theorem c1 (h:Z8 w L s):w.cell? ⟨L.p,1,none⟩=some (.slice (some ⟨L.bn,0,none⟩) s.n s.n):=ZW h.obj rfl
theorem c2 (h:Z8 w L s):w.cell? ⟨L.p,2,none⟩=some (iV s.who):=ZW h.obj rfl
theorem c3 (h:Z8 w L s):w.cell? ⟨L.p,3,none⟩=some (iV s.steps):=ZW h.obj rfl
theorem c4 (h:Z8 w L s):w.cell? ⟨L.p,4,none⟩=some (iV s.la):=ZW h.obj rfl
theorem c5 (h:Z8 w L s):w.cell? ⟨L.p,5,none⟩=some (iV s.lw):=ZW h.obj rfl
theorem c6 (h:Z8 w L s):w.cell? ⟨L.p,6,none⟩=some (.bool s.lc):=ZW h.obj rfl
theorem fz (h:Z8 w L s) (o:Nat):w.frozen? ⟨L.p,o,none⟩=false:=YV h.obj o
theorem WT (h:Z8 w L s) (e:∀ k,L.has k->w'.heap[k]?=w.heap[k]?):Z8 w' L s :=
 ⟨(e _ (Or.inl rfl)).trans h.obj,h.words.of_block (e _ (Or.inr (Or.inl rfl))),h.AO.of_block (e _ (Or.inr (Or.inr rfl))),h.d1,h.d2,h.d3,h.len⟩
theorem lt (h:Z8 w L s) (k:Nat) (hk:L.has k):k<w.heap.size:=by
 rcases hk with rfl | rfl | rfl
 . exact XP h.obj
 . exact h.words.lt
 . exact h.AO.lt
theorem only {S:Nat->Prop} (h:Z8 w L s) (k:Only S w w') (hS:∀ i,L.has i->¬ S i):Z8 w' L s :=
 h.WT fun i hi=>k.block i (h.lt i hi) (hS i hi)
theorem below (h:Z8 w L s) (k:Below w.heap.size w w'):Z8 w' L s:=h.WT fun i hi=>k.block i (h.lt i hi)
theorem alloc (h:Z8 w L s) (o:Obj):Z8 (w.alloc o) L s:=h.WT fun i hi=>Go.Deep.blk_alloc_lt _ _ _ (h.lt i hi)
theorem drew (h:Z8 w L s):Z8 w.drew L s:=h.WT fun _ _=>rfl
theorem Pg {s':Mm} (h:Z8 w L s) (o:Nat) (v:Value) (hc:(s.cells L).setIfInBounds o v=s'.cells L) (hn:s'.n=s.n) (hw:s'.wd=s.wd) (hk:s'.wn=s.wn):Z8 (w.setCell ⟨L.p,o,none⟩ v) L s':=by
 refine⟨?_,?_,?_,h.d1,h.d2,h.d3,by rw[hn];exact h.len⟩
 . rw[<- hc];exact ZV _ _ _ _ _ _ h.obj
 . rw[hn,hw];exact h.words.setOther (by simpa using h.d1.symm) _
 . rw[hn,hk];exact h.AO.setOther (by simpa using h.d2.symm) _
theorem setW (h:Z8 w L s) (a:Nat) (v:Int):Z8 (w.setCell ⟨L.bw,a,none⟩ (.int .u64 v)) L { s with wd:=upd s.wd a v }:=by
 refine⟨?_,?_,?_,h.d1,h.d2,h.d3,h.len⟩
 . rw[Go.Deep.blk_setCell_other _ _ _ _ (by simpa using h.d1)];exact h.obj
 . refine(h.words.set a (.int .u64 v)).congr fun i _=>?_
   show _=Value.int .u64 (upd s.wd a v i)
   unfold upd;split <;> rfl
 . exact h.AO.setOther (by simpa using h.d3.symm) _
theorem tq (h:Z8 w L s) (a:Nat) (v:Int):Z8 (w.setCell ⟨L.bn,a,none⟩ (iV v)) L { s with wn:=upd s.wn a v }:=by
 refine⟨?_,?_,?_,h.d1,h.d2,h.d3,h.len⟩
 . rw[Go.Deep.blk_setCell_other _ _ _ _ (by simpa using h.d2)];exact h.obj
 . exact h.words.setOther (by simpa using h.d3) _
 . refine(h.AO.set a (iV v)).congr fun i _=>?_
   show _=iV (upd s.wn a v i)
   unfold upd;split <;> rfl
theorem UG {S:Nat->Prop} {w0:World} (k:Only S w0 w) (hS:S L.p) (o:Nat) (v:Value):Only S w0 (w.setCell ⟨L.p,o,none⟩ v):=k.setCell (fun _=>hS) v
theorem other (h:Z8 w L s) {a:Addr} (ha:¬ L.has a.block) (v:Value):Z8 (w.setCell a v) L s :=
 h.WT fun _ hi=>Go.Deep.blk_setCell_other _ _ _ _ (fun e=>ha (e ▸ hi))
end Z8
def Mm.step (s:Mm) (a:Nat) (v:Int):Mm :=
 { s with wd:=upd s.wd a v,wn:=if s.wd a=v then s.wn else upd s.wn a (wrap64 (s.steps+1)),steps:=wrap64 (s.steps+1),la:=a,lw:=s.who,lc:=!decide (s.wd a=v) }
set_option maxHeartbeats 400000 in
theorem VC {w:World} {L:Loc} {s:Mm} (h:Z8 w L s) (a:Int) :
 Calls Tryz.prog 61 #[pP L.p 0,iV a] w fun e w'=>e=.returned (.bool (decide (0<=a/\a<s.n)))/\w'=w:=by
 have hc:=h.c0
 by_cases h1:0<=a
 . by_cases h2:a<s.n
   . go_enter Tryz.func61,Tryz.ntmps61
     go_wp2
     go_ret
     exact⟨by simp[h1,h2],rfl⟩
   . go_enter Tryz.func61,Tryz.ntmps61
     go_wp2
     go_ret
     exact⟨by simp[h2],rfl⟩
 . go_enter Tryz.func61,Tryz.ntmps61
   go_wp2
   go_ret
   exact⟨by simp;omega,rfl⟩
theorem H5 {w:World} {L:Loc} {s:Mm} (h:Z8 w L s) (a:Nat) (v:Int) (hv:s.wd a=v) :
 Z8 ((((w.setCell ⟨L.p,3,none⟩ (iV (wrap64 (s.steps+1)))).setCell ⟨L.p,4,none⟩ (iV a)).setCell ⟨L.p,5,none⟩ (iV s.who)).setCell ⟨L.p,6,none⟩ (.bool false)) L (s.step a v):=by
 have h1:=h.Pg (s':={ s with steps:=wrap64 (s.steps+1) }) 3 _ rfl rfl rfl rfl
 have h2:=h1.Pg (s':={ s with steps:=wrap64 (s.steps+1),la:=a }) 4 _ rfl rfl rfl rfl
 have h3:=h2.Pg (s':={ s with steps:=wrap64 (s.steps+1),la:=a,lw:=s.who }) 5 _ rfl rfl rfl rfl
 have h4:=h3.Pg (s':={ s with steps:=wrap64 (s.steps+1),la:=a,lw:=s.who,lc:=false }) 6 _ rfl rfl rfl rfl
 have e:s.step a v={ s with steps:=wrap64 (s.steps+1),la:=a,lw:=s.who,lc:=false }:=by
  subst hv
  simp[Mm.step,Vg]
 rw[e];exact h4
theorem ER {w:World} {L:Loc} {s:Mm} (h:Z8 w L s) (a:Nat) (v:Int) (hv:¬ s.wd a=v) :
 Z8 ((((((w.setCell ⟨L.p,3,none⟩ (iV (wrap64 (s.steps+1)))).setCell ⟨L.bw,a,none⟩ (.int .u64 v)).setCell ⟨L.bn,a,none⟩ (iV (wrap64 (s.steps+1)))).setCell ⟨L.p,4,none⟩ (iV a)).setCell ⟨L.p,5,none⟩ (iV s.who)).setCell ⟨L.p,6,none⟩ (.bool true)) L (s.step a v):=by
 have h1:=h.Pg (s':={ s with steps:=wrap64 (s.steps+1) }) 3 _ rfl rfl rfl rfl
 have h2:=(h1.setW a v).tq a (wrap64 (s.steps+1))
 have h3:=h2.Pg (s':={ s with wd:=upd s.wd a v,wn:=upd s.wn a (wrap64 (s.steps+1)),steps:=wrap64 (s.steps+1),la:=a }) 4 _ rfl rfl rfl rfl
 have h4:=h3.Pg (s':={ s with wd:=upd s.wd a v,wn:=upd s.wn a (wrap64 (s.steps+1)),steps:=wrap64 (s.steps+1),la:=a,lw:=s.who }) 5 _ rfl rfl rfl rfl
 have h5:=h4.Pg (s':={ s with wd:=upd s.wd a v,wn:=upd s.wn a (wrap64 (s.steps+1)),steps:=wrap64 (s.steps+1),la:=a,lw:=s.who,lc:=true }) 6 _ rfl rfl rfl rfl
 have e:s.step a v={ s with wd:=upd s.wd a v,wn:=upd s.wn a (wrap64 (s.steps+1)),steps:=wrap64 (s.steps+1),la:=a,lw:=s.who,lc:=true }:=by
  simp[Mm.step,hv]
 rw[e];exact h5
set_option maxHeartbeats 400000 in
theorem VW {w:World} {L:Loc} {s:Mm} (h:Z8 w L s) (a:Nat) (ha:a<s.n) (v:Int) :
 Calls Tryz.prog 62 #[pP L.p 0,iV a,.int .u64 v] w fun e w'=>e=.returned (.tuple #[])/\Z8 w' L (s.step a v)/\Only L.has w w'/\w'.heap.size=w.heap.size:=by
 have k0:=h.c0
 have k1:=h.c1
 have k2:=h.c2
 have k3:=h.c3
 have k4:=h.c4
 have k5:=h.c5
 have k6:=h.c6
 have kf:=h.fz
 have kw:=h.words.cell ha
 have kn:=h.AO.cell ha
 have fw:=h.words.frozen
 have fn:=h.AO.frozen
 have d1:=h.d1
 have d2:=h.d2
 have d3:=h.d3
 have hl:=h.len
 by_cases hv:s.wd a=v
 . go_enter Tryz.func62,Tryz.ntmps62
   go_wp2
   go_end0
   refine⟨rfl,H5 h a v hv,?_,by simp⟩
   exact Z8.UG (Z8.UG (Z8.UG (Z8.UG (Only.refl _ _) (Or.inl rfl) _ _) (Or.inl rfl) _ _) (Or.inl rfl) _ _) (Or.inl rfl) _ _
 . go_enter Tryz.func62,Tryz.ntmps62
   go_wp2
   go_region
   all_goals go_wp2
   all_goals go_end0
   all_goals refine⟨rfl,(ER h a v hv).drew,Only.drew ?_,by simp⟩
   all_goals exact Z8.UG (Z8.UG (Z8.UG (Only.setCell (Only.setCell (Z8.UG (Only.refl _ _) (Or.inl rfl) _ _) (fun _=>Or.inr (Or.inl rfl)) _) (fun _=>Or.inr (Or.inr rfl)) _) (Or.inl rfl) _ _) (Or.inl rfl) _ _) (Or.inl rfl) _ _
theorem BZ {w:World} {L:Loc} {s:Mm} (h:Z8 w L s) (a:Nat) (ha:a<s.n) :
 Calls Tryz.prog 129 #[pP L.p 0,iV a] w fun e w'=>e=.returned (.tuple #[.int .u64 (s.wd a),iV 0])/\Z8 w' L (s.step a (s.wd a))/\Only L.has w w'/\w'.heap.size=w.heap.size:=by
 have k0:=h.c0
 have kw:=h.words.cell ha
 have hl:=h.len
 have hb:(0:Int)<=(a:Int)/\(a:Int)<(s.n:Int):=by omega
 go_enter Tryz.func129,Tryz.ntmps129
 go_wp2_with (first
  | (go_at_call 61;refine(VC h _).mono ?_;rintro e w' ⟨rfl,rfl⟩;rw[decide_eq_true hb])
  | (go_at_call 62;refine(VW h _ ha _).mono ?_;rintro e w' ⟨rfl,h1,h2,h3⟩))
 go_ret2
 exact⟨rfl,h1,h2,h3⟩
theorem UH {w:World} {L:Loc} {s:Mm} (h:Z8 w L s) (a:Nat) (ha:a<s.n) (v:Int) :
 Calls Tryz.prog 48 #[pP L.p 0,iV a,.int .u64 v] w fun e w'=>e=.returned (iV 0)/\Z8 w' L (s.step a v)/\Only L.has w w'/\w'.heap.size=w.heap.size:=by
 have hb:(0:Int)<=(a:Int)/\(a:Int)<(s.n:Int):=by omega
 go_enter Tryz.func48,Tryz.ntmps48
 go_wp2_with (first
  | (go_at_call 61;refine(VC h _).mono ?_;rintro e w' ⟨rfl,rfl⟩;rw[decide_eq_true hb])
  | (go_at_call 62;refine(VW h _ ha _).mono ?_;rintro e w' ⟨rfl,h1,h2,h3⟩))
 go_ret
 exact⟨rfl,h1,h2,h3⟩
def Mm.Wq (s:Mm) (a:Nat) (old v:Int):Mm:=if s.wd a=old then s.step a v else s.step a (s.wd a)
set_option maxHeartbeats 400000 in
theorem zh {w:World} {L:Loc} {s:Mm} (h:Z8 w L s) (a:Nat) (ha:a<s.n) (old v:Int) :
 Calls Tryz.prog 177 #[pP L.p 0,iV a,.int .u64 old,.int .u64 v] w fun e w'=>e=.returned (.tuple #[.bool (decide (s.wd a=old)),iV 0])/\Z8 w' L (s.Wq a old v)/\Only L.has w w'/\w'.heap.size=w.heap.size:=by
 have k0:=h.c0
 have kw:=h.words.cell ha
 have hl:=h.len
 have hb:(0:Int)<=(a:Int)/\(a:Int)<(s.n:Int):=by omega
 by_cases hv:s.wd a=old
 . go_enter Tryz.func177,Tryz.ntmps177
   go_wp2_with (first
    | (go_at_call 61;refine(VC h _).mono ?_;rintro e w' ⟨rfl,rfl⟩;rw[decide_eq_true hb])
    | (go_at_call 62;refine(VW h _ ha _).mono ?_;rintro e w' ⟨rfl,h1,h2,h3⟩))
   go_ret2
   exact⟨by rw[decide_eq_true hv];rfl,by rw[Mm.Wq,if_pos hv];exact h1,h2,h3⟩
 . go_enter Tryz.func177,Tryz.ntmps177
   go_wp2_with (first
    | (go_at_call 61;refine(VC h _).mono ?_;rintro e w' ⟨rfl,rfl⟩;rw[decide_eq_true hb])
    | (go_at_call 62;refine(VW h _ ha _).mono ?_;rintro e w' ⟨rfl,h1,h2,h3⟩))
   go_ret2
   exact⟨by rw[decide_eq_false hv];rfl,by rw[Mm.Wq,if_neg hv];exact h1,h2,h3⟩
def sum64 (x y:Int):Int:=(x+y) % 18446744073709551616
theorem zg {w:World} {L:Loc} {s:Mm} (h:Z8 w L s) (a:Nat) (ha:a<s.n) (v:Int) :
 Calls Tryz.prog 167 #[pP L.p 0,iV a,.int .u64 v] w fun e w'=>e=.returned (.tuple #[.int .u64 (s.wd a),iV 0])/\Z8 w' L (s.step a (sum64 (s.wd a) v))/\Only L.has w w'/\w'.heap.size=w.heap.size:=by
 have k0:=h.c0
 have kw:=h.words.cell ha
 have hl:=h.len
 have hb:(0:Int)<=(a:Int)/\(a:Int)<(s.n:Int):=by omega
 go_enter Tryz.func167,Tryz.ntmps167
 go_wp2_with (first
  | (go_at_call 61;refine(VC h _).mono ?_;rintro e w' ⟨rfl,rfl⟩;rw[decide_eq_true hb])
  | (go_at_call 62;refine(VW h _ ha _).mono ?_;rintro e w' ⟨rfl,h1,h2,h3⟩))
 go_ret2
 exact⟨rfl,h1,h2,h3⟩
theorem CO {w:World} {L:Loc} {s:Mm} (h:Z8 w L s) (a:Nat) (ha:a<s.n) :
 Calls Tryz.prog 198 #[pP L.p 0,iV a] w fun e w'=>e=.returned (iV (s.wn a))/\w'=w:=by
 have k0:=h.c1
 have kw:=h.AO.cell ha
 have hl:=h.len
 have hb:(0:Int)<=(a:Int)/\(a:Int)<(s.n:Int):=by omega
 go_enter Tryz.func198,Tryz.ntmps198
 go_wp2_with (go_at_call 61;refine(VC h _).mono ?_;rintro e w' ⟨rfl,rfl⟩;rw[decide_eq_true hb])
 go_ret
 exact⟨rfl,rfl⟩
theorem len_any {w:World} {L:Loc} {s:Mm} (h:Z8 w L s) :
 Calls Tryz.prog 168 #[pP L.p 0] w fun e w'=>e=.returned (iV s.n)/\w'=w:=by
 have k0:=h.c0
 go_enter Tryz.func168,Tryz.ntmps168
 go_wp2
 go_ret
 exact⟨rfl,rfl⟩
theorem Ir {w:World} {L:Loc} {s:Mm} (h:Z8 w L s) :
 Calls Tryz.prog 27 #[pP L.p 0] w fun e w'=>e=.returned (iV s.steps)/\w'=w:=by
 have k0:=h.c3
 go_enter Tryz.func27,Tryz.ntmps27
 go_wp2
 go_ret
 exact⟨rfl,rfl⟩
theorem Pn {w:World} {L:Loc} {s:Mm} (h:Z8 w L s) (who:Int) :
 Calls Tryz.prog 90 #[pP L.p 0,iV who] w fun e w'=>e=.returned (.tuple #[])/\Z8 w' L { s with who:=who }/\Only L.has w w'/\w'.heap.size=w.heap.size:=by
 have k2:=h.c2
 have kf:=h.fz
 go_enter Tryz.func90,Tryz.ntmps90
 go_wp2
 go_end0
 exact⟨rfl,h.Pg 2 _ rfl rfl rfl rfl,Z8.UG (Only.refl _ _) (Or.inl rfl) _ _,by simp⟩
def Mm.fresh (n:Nat):Mm:=⟨n,fun _=>0,fun _=>0,0,0,0,0,false⟩
theorem Tryz.yX:(Tryz.prog.info? 3).map (fun i=>(i.zero,i.size,i.bytes))=some (some (iV 0),1,8):=by kernel_rfl
theorem Tryz.BP:(Tryz.prog.info? 41).map (fun i=>(i.zero,i.size,i.bytes))=some (some (.int .u64 0),1,8):=by kernel_rfl
theorem KP {w:World} (n:Nat):Z8 ((((w.alloc (.cells (madeCells #[.int .u64 0] n) 41)).alloc (.cells (madeCells #[iV 0] n) 3)).alloc (.cells ((Mm.fresh n).cells ⟨w.heap.size+1+1,w.heap.size,w.heap.size+1⟩) 94)).drew) ⟨w.heap.size+1+1,w.heap.size,w.heap.size+1⟩ (Mm.fresh n)\/1048576<n:=by
 by_cases h:n<=1048576
 . left
   refine Z8.drew ⟨?_,?_,?_,by simp only;omega,by simp only;omega,by simp only;omega,h⟩
   . have e:=Go.Deep.blk_alloc_new ((w.alloc (.cells (madeCells #[.int .u64 0] n) 41)).alloc (.cells (madeCells #[iV 0] n) 3)) (.cells ((Mm.fresh n).cells ⟨w.heap.size+1+1,w.heap.size,w.heap.size+1⟩) 94)
     simp only[Go.Deep.nblk_alloc] at e
     exact e
   . exact((World.rowIs_made w (.int .u64 0) n 41).alloc _).alloc _
   . have e:=(World.rowIs_made (w.alloc (.cells (madeCells #[.int .u64 0] n) 41)) (iV 0) n 3)
     simp only[Go.Deep.nblk_alloc] at e
     exact e.alloc _
 . right;omega
theorem KO {w:World} (n:Nat):Z8 ((((w.alloc (.cells (madeCells #[iV 0] n) 3)).alloc (.cells (madeCells #[.int .u64 0] n) 41)).alloc (.cells ((Mm.fresh n).cells ⟨w.heap.size+1+1,w.heap.size+1,w.heap.size⟩) 94)).drew) ⟨w.heap.size+1+1,w.heap.size+1,w.heap.size⟩ (Mm.fresh n)\/1048576<n:=by
 by_cases h:n<=1048576
 . left
   refine Z8.drew ⟨?_,?_,?_,by simp only;omega,by simp only;omega,by simp only;omega,h⟩
   . have e:=Go.Deep.blk_alloc_new ((w.alloc (.cells (madeCells #[iV 0] n) 3)).alloc (.cells (madeCells #[.int .u64 0] n) 41)) (.cells ((Mm.fresh n).cells ⟨w.heap.size+1+1,w.heap.size+1,w.heap.size⟩) 94)
     simp only[Go.Deep.nblk_alloc] at e
     exact e
   . have e:=(World.rowIs_made (w.alloc (.cells (madeCells #[iV 0] n) 3)) (.int .u64 0) n 41)
     simp only[Go.Deep.nblk_alloc] at e
     exact e.alloc _
   . exact((World.rowIs_made w (iV 0) n 3).alloc _).alloc _
 . right;omega
theorem NC (m:Nat) (k:Nat) (h:Loc.has ⟨m+1+1,m,m+1⟩ k\/Loc.has ⟨m+1+1,m+1,m⟩ k):m<=k:=by
 unfold Loc.has at h
 simp only at h
 omega
theorem yZ (n:Nat) (h1:1<=n) (h2:n<=1048576) (w:World) :
 Calls Tryz.prog 46 #[iV n] w fun e w'=>∃ L:Loc,e=.returned (.tuple #[pP L.p 0,iV 0])/\Z8 w' L (Mm.fresh n)/\Below w.heap.size w w'/\∀ k,L.has k->w.heap.size<=k:=by
 have hm1:=run_make_row' (P:=Tryz.prog) 82 41 (.int .u64 0) 8 Tryz.underlying82 Tryz.BP rfl .i64 .i64 n (by omega) (by omega)
 have hm2:=run_make_row' (P:=Tryz.prog) 90 3 (iV 0) 8 Tryz.underlying90 Tryz.yX rfl .i64 .i64 n (by omega) (by omega)
 go_enter Tryz.func46,Tryz.ntmps46
 go_wp2
 go_region
 all_goals go_wp2
 all_goals go_ret2
 . exact⟨⟨w.heap.size+1+1,w.heap.size,w.heap.size+1⟩,rfl,(KP n).resolve_right (by omega),((((Below.refl _ _).alloc (Nat.le_refl _) _).alloc (by simp) _).alloc (by simp;omega) _).drew,fun k hk=>NC _ _ (Or.inl hk)⟩
 . exact⟨⟨w.heap.size+1+1,w.heap.size+1,w.heap.size⟩,rfl,(KO n).resolve_right (by omega),((((Below.refl _ _).alloc (Nat.le_refl _) _).alloc (by simp) _).alloc (by simp;omega) _).drew,fun k hk=>NC _ _ (Or.inr hk)⟩
theorem nb {w:World} {L:Loc} {s:Mm} {b:Nat} (h:Z8 w L s) (hi:b<w.heap.size):¬ L.has w.heap.size∧¬ w.heap.size=b := ⟨fun hh => by have := h.lt _ hh; omega, by omega⟩
end
section
def Mm.by(s:Mm) (who:Int):Mm:={ s with who:=who }
theorem Zj {w:World} {L:Loc} {s:Mm} (h:Z8 w L s) (c0 c1 c2 c3 c4 c5 c6 who:Int) (a:Nat) (ha:a<s.n) :
 Calls Tryz.prog 126 #[eV c0 c1 c2 c3 c4 c5 c6 L.p who,iV a] w fun e w'=>e=.returned (.int .u64 (s.wd a))/\Z8 w' L ((s.by who).step a (s.wd a))/\Only L.has w w':=by
 go_enter Tryz.func126,Tryz.ntmps126
 go_wp2_with (first
  | (go_at_call 90;refine(Pn (h.alloc _) _).mono ?_;rintro e w1 ⟨rfl,m1,o1,z1⟩;have k7:=o1.keep (b:=w.heap.size) (o:=7) (v:=(pP L.p 0)) (fun hh=>by have:=h.lt _ hh;omega) (by simp))
  | (go_at_call 129;refine(BZ m1 a ha).mono ?_;rintro e w2 ⟨rfl,m2,o2,z2⟩))
 go_ret
 exact⟨rfl,m2,((Only.refl _ _).alloc _).trans (o1.trans o2)⟩
theorem WX {w:World} {L:Loc} {s:Mm} (h:Z8 w L s) (c0 c1 c2 c3 c4 c5 c6 who:Int) (a:Nat) (ha:a<s.n) (v:Int) :
 Calls Tryz.prog 128 #[eV c0 c1 c2 c3 c4 c5 c6 L.p who,iV a,.int .u64 v] w fun e w'=>e=.returned (.tuple #[])/\Z8 w' L ((s.by who).step a v)/\Only L.has w w':=by
 go_enter Tryz.func128,Tryz.ntmps128
 go_wp2_with (first
  | (go_at_call 90;refine(Pn (h.alloc _) _).mono ?_;rintro e w1 ⟨rfl,m1,o1,z1⟩;have k7:=o1.keep (b:=w.heap.size) (o:=7) (v:=(pP L.p 0)) (fun hh=>by have:=h.lt _ hh;omega) (by simp))
  | (go_at_call 48;refine(UH m1 a ha _).mono ?_;rintro e w2 ⟨rfl,m2,o2,z2⟩))
 go_end0
 exact⟨rfl,m2,((Only.refl _ _).alloc _).trans (o1.trans o2)⟩
theorem Yj {w:World} {L:Loc} {s:Mm} (h:Z8 w L s) (c0 c1 c2 c3 c4 c5 c6 who:Int) (a:Nat) (ha:a<s.n) (old v:Int) :
 Calls Tryz.prog 170 #[eV c0 c1 c2 c3 c4 c5 c6 L.p who,iV a,.int .u64 old,.int .u64 v] w fun e w'=>e=.returned (.bool (decide (s.wd a=old)))/\Z8 w' L ((s.by who).Wq a old v)/\Only L.has w w':=by
 go_enter Tryz.func170,Tryz.ntmps170
 go_wp2_with (first
  | (go_at_call 90;refine(Pn (h.alloc _) _).mono ?_;rintro e w1 ⟨rfl,m1,o1,z1⟩;have k7:=o1.keep (b:=w.heap.size) (o:=7) (v:=(pP L.p 0)) (fun hh=>by have:=h.lt _ hh;omega) (by simp))
  | (go_at_call 177;refine(zh m1 a ha _ _).mono ?_;rintro e w2 ⟨rfl,m2,o2,z2⟩))
 go_ret
 exact⟨rfl,m2,((Only.refl _ _).alloc _).trans (o1.trans o2)⟩
def Xv (d:Int):Int:=d % 18446744073709551616
theorem JW {w:World} {L:Loc} {s:Mm} (h:Z8 w L s) (c0 c1 c2 c3 c4 c5 c6 who:Int) (a:Nat) (ha:a<s.n) (d:Int) :
 Calls Tryz.prog 150 #[eV c0 c1 c2 c3 c4 c5 c6 L.p who,iV a,iV d] w fun e w'=>e=.returned (.tuple #[])/\Z8 w' L ((s.by who).step a (sum64 (s.wd a) (Xv d)))/\Only L.has w w':=by
 go_enter Tryz.func150,Tryz.ntmps150
 go_wp2_with (first
  | (go_at_call 90;refine(Pn (h.alloc _) _).mono ?_;rintro e w1 ⟨rfl,m1,o1,z1⟩;have k7:=o1.keep (b:=w.heap.size) (o:=7) (v:=(pP L.p 0)) (fun hh=>by have:=h.lt _ hh;omega) (by simp))
  | (go_at_call 167;refine(zg m1 a ha _).mono ?_;rintro e w2 ⟨rfl,m2,o2,z2⟩))
 go_end0
 exact⟨rfl,m2,((Only.refl _ _).alloc _).trans (o1.trans o2)⟩
theorem FP {w:World} {L:Loc} {s:Mm} (h:Z8 w L s) (c0 c1 c2 c3 c4 c5 c6 who:Int) :
 Calls Tryz.prog 11 #[eV c0 c1 c2 c3 c4 c5 c6 L.p who] w fun e w'=>e=.returned (iV s.steps)/\Below w.heap.size w w':=by
 go_enter Tryz.func11,Tryz.ntmps11
 go_wp2_with (go_at_call 27;refine(Ir (h.alloc _)).mono ?_;rintro e w1 ⟨rfl,rfl⟩)
 go_ret
 exact⟨rfl,Z7 (Below.refl _ _) _⟩
end
end Go.Proofs.YtgehjolndmgffaaGreat
