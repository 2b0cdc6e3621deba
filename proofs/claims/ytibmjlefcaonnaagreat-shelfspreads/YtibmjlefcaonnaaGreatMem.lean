import Derived.Test.YtibmjlefcaonnaaGreatAbb
import Derived.Test.YtibmjlefcaonnaaGreatRows
import Derived.Test.YtibmjlefcaonnaaGreatOnly
namespace Go.Proofs.YtibmjlefcaonnaaGreat
open Go.RowKit
structure Mm where
 n:Nat
 wd:Nat->Int
 wn:Nat->Int
 who:Int
 steps:Int
 la:Int
 lw:Int
 lc:Bool
structure Loc where
 p:Nat
 bw:Nat
 bn:Nat
def Loc.has (L:Loc) (k:Nat):Prop:=k=L.p\/k=L.bw\/k=L.bn
def Mm.cells (L:Loc) (s:Mm):Array Value :=
 #[.slice (some ⟨L.bw,0,none⟩) s.n s.n,.slice (some ⟨L.bn,0,none⟩) s.n s.n,iV s.who,iV s.steps,iV s.la,iV s.lw,.bool s.lc]
structure Z7 (w:World) (L:Loc) (s:Mm):Prop where
 obj:w.heap[L.p]?=some (.cells (s.cells L) 97 (0,0))
 words:w.rowIs L.bw 39 s.n (fun i=>.int .u64 (s.wd i))
 BD:w.rowIs L.bn 3 s.n (fun i=>iV (s.wn i))
 d1:L.p≠L.bw
 d2:L.p≠L.bn
 d3:L.bw≠L.bn
 len:s.n<=1048576
namespace Z7
variable {w w':World} {L:Loc} {s:Mm}
theorem c0 (h:Z7 w L s):w.cell? ⟨L.p,0,none⟩=some (.slice (some ⟨L.bw,0,none⟩) s.n s.n):=ZV h.obj rfl
theorem c1 (h:Z7 w L s):w.cell? ⟨L.p,1,none⟩=some (.slice (some ⟨L.bn,0,none⟩) s.n s.n):=ZV h.obj rfl
theorem c2 (h:Z7 w L s):w.cell? ⟨L.p,2,none⟩=some (iV s.who):=ZV h.obj rfl
theorem c3 (h:Z7 w L s):w.cell? ⟨L.p,3,none⟩=some (iV s.steps):=ZV h.obj rfl
theorem c4 (h:Z7 w L s):w.cell? ⟨L.p,4,none⟩=some (iV s.la):=ZV h.obj rfl
theorem c5 (h:Z7 w L s):w.cell? ⟨L.p,5,none⟩=some (iV s.lw):=ZV h.obj rfl
theorem c6 (h:Z7 w L s):w.cell? ⟨L.p,6,none⟩=some (.bool s.lc):=ZV h.obj rfl
theorem fz (h:Z7 w L s) (o:Nat):w.frozen? ⟨L.p,o,none⟩=false:=YK h.obj o
theorem WQ (h:Z7 w L s) (e:∀ k,L.has k->w'.heap[k]?=w.heap[k]?):Z7 w' L s :=
 ⟨(e _ (Or.inl rfl)).trans h.obj,h.words.of_block (e _ (Or.inr (Or.inl rfl))),h.BD.of_block (e _ (Or.inr (Or.inr rfl))),h.d1,h.d2,h.d3,h.len⟩
theorem lt (h:Z7 w L s) (k:Nat) (hk:L.has k):k<w.heap.size:=by
 rcases hk with rfl | rfl | rfl
 . exact We h.obj
 . exact h.words.lt
 . exact h.BD.lt
theorem only {S:Nat->Prop} (h:Z7 w L s) (k:Only S w w') (hS:∀ i,L.has i->¬ S i):Z7 w' L s :=
 h.WQ fun i hi=>k.block i (h.lt i hi) (hS i hi)
theorem below (h:Z7 w L s) (k:Below w.heap.size w w'):Z7 w' L s:=h.WQ fun i hi=>k.block i (h.lt i hi)
theorem alloc (h:Z7 w L s) (o:Obj):Z7 (w.alloc o) L s:=h.WQ fun i hi=>Go.Deep.blk_alloc_lt _ _ _ (h.lt i hi)
theorem drew (h:Z7 w L s):Z7 w.drew L s:=h.WQ fun _ _=>rfl
theorem Pv {s':Mm} (h:Z7 w L s) (o:Nat) (v:Value) (hc:(s.cells L).setIfInBounds o v=s'.cells L) (hn:s'.n=s.n) (hw:s'.wd=s.wd) (hk:s'.wn=s.wn):Z7 (w.setCell ⟨L.p,o,none⟩ v) L s':=by
 refine⟨?_,?_,?_,h.d1,h.d2,h.d3,by rw[hn];exact h.len⟩
 . rw[<- hc];exact ZW _ _ _ _ _ _ h.obj
 . rw[hn,hw];exact h.words.setOther (by simpa using h.d1.symm) _
 . rw[hn,hk];exact h.BD.setOther (by simpa using h.d2.symm) _
theorem setW (h:Z7 w L s) (a:Nat) (v:Int):Z7 (w.setCell ⟨L.bw,a,none⟩ (.int .u64 v)) L { s with wd:=upd s.wd a v }:=by
 refine⟨?_,?_,?_,h.d1,h.d2,h.d3,h.len⟩
 . rw[Go.Deep.blk_setCell_other _ _ _ _ (by simpa using h.d1)];exact h.obj
 . refine(h.words.set a (.int .u64 v)).congr fun i _=>?_
   show _=Value.int .u64 (upd s.wd a v i)
   unfold upd;split <;> rfl
 . exact h.BD.setOther (by simpa using h.d3.symm) _
theorem uA (h:Z7 w L s) (a:Nat) (v:Int):Z7 (w.setCell ⟨L.bn,a,none⟩ (iV v)) L { s with wn:=upd s.wn a v }:=by
 refine⟨?_,?_,?_,h.d1,h.d2,h.d3,h.len⟩
 . rw[Go.Deep.blk_setCell_other _ _ _ _ (by simpa using h.d2)];exact h.obj
 . exact h.words.setOther (by simpa using h.d3) _
 . refine(h.BD.set a (iV v)).congr fun i _=>?_
   show _=iV (upd s.wn a v i)
   unfold upd;split <;> rfl
theorem Uu {S:Nat->Prop} {w0:World} (k:Only S w0 w) (hS:S L.p) (o:Nat) (v:Value):Only S w0 (w.setCell ⟨L.p,o,none⟩ v):=k.setCell (fun _=>hS) v
theorem other (h:Z7 w L s) {a:Addr} (ha:¬ L.has a.block) (v:Value):Z7 (w.setCell a v) L s :=
 h.WQ fun _ hi=>Go.Deep.blk_setCell_other _ _ _ _ (fun e=>ha (e ▸ hi))
end Z7
def Mm.step (s:Mm) (a:Nat) (v:Int):Mm :=
 { s with wd:=upd s.wd a v,wn:=if s.wd a=v then s.wn else upd s.wn a (wrap64 (s.steps+1)),steps:=wrap64 (s.steps+1),la:=a,lw:=s.who,lc:=!decide (s.wd a=v) }
set_option maxHeartbeats 400000 in
theorem Vl {w:World} {L:Loc} {s:Mm} (h:Z7 w L s) (a:Int) :
 Calls Tryz.prog 53 #[pP L.p 0,iV a] w fun e w'=>e=.returned (.bool (decide (0<=a/\a<s.n)))/\w'=w:=by
 have hc:=h.c0
 by_cases h1:0<=a
 . by_cases h2:a<s.n
   . go_enter Tryz.func53,Tryz.ntmps53
     go_wp2
     go_ret
     exact⟨by simp[h1,h2],rfl⟩
   . go_enter Tryz.func53,Tryz.ntmps53
     go_wp2
     go_ret
     exact⟨by simp[h2],rfl⟩
 . go_enter Tryz.func53,Tryz.ntmps53
   go_wp2
   go_ret
   exact⟨by simp;omega,rfl⟩
theorem Iq {w:World} {L:Loc} {s:Mm} (h:Z7 w L s) (a:Nat) (v:Int) (hv:s.wd a=v) :
 Z7 ((((w.setCell ⟨L.p,3,none⟩ (iV (wrap64 (s.steps+1)))).setCell ⟨L.p,4,none⟩ (iV a)).setCell ⟨L.p,5,none⟩ (iV s.who)).setCell ⟨L.p,6,none⟩ (.bool false)) L (s.step a v):=by
 have h1:=h.Pv (s':={ s with steps:=wrap64 (s.steps+1) }) 3 _ rfl rfl rfl rfl
 have h2:=h1.Pv (s':={ s with steps:=wrap64 (s.steps+1),la:=a }) 4 _ rfl rfl rfl rfl
 have h3:=h2.Pv (s':={ s with steps:=wrap64 (s.steps+1),la:=a,lw:=s.who }) 5 _ rfl rfl rfl rfl
 have h4:=h3.Pv (s':={ s with steps:=wrap64 (s.steps+1),la:=a,lw:=s.who,lc:=false }) 6 _ rfl rfl rfl rfl
 have e:s.step a v={ s with steps:=wrap64 (s.steps+1),la:=a,lw:=s.who,lc:=false }:=by
  subst hv
  simp[Mm.step,YD]
 rw[e];exact h4
theorem Fz {w:World} {L:Loc} {s:Mm} (h:Z7 w L s) (a:Nat) (v:Int) (hv:¬ s.wd a=v) :
 Z7 ((((((w.setCell ⟨L.p,3,none⟩ (iV (wrap64 (s.steps+1)))).setCell ⟨L.bw,a,none⟩ (.int .u64 v)).setCell ⟨L.bn,a,none⟩ (iV (wrap64 (s.steps+1)))).setCell ⟨L.p,4,none⟩ (iV a)).setCell ⟨L.p,5,none⟩ (iV s.who)).setCell ⟨L.p,6,none⟩ (.bool true)) L (s.step a v):=by
 have h1:=h.Pv (s':={ s with steps:=wrap64 (s.steps+1) }) 3 _ rfl rfl rfl rfl
 have h2:=(h1.setW a v).uA a (wrap64 (s.steps+1))
 have h3:=h2.Pv (s':={ s with wd:=upd s.wd a v,wn:=upd s.wn a (wrap64 (s.steps+1)),steps:=wrap64 (s.steps+1),la:=a }) 4 _ rfl rfl rfl rfl
 have h4:=h3.Pv (s':={ s with wd:=upd s.wd a v,wn:=upd s.wn a (wrap64 (s.steps+1)),steps:=wrap64 (s.steps+1),la:=a,lw:=s.who }) 5 _ rfl rfl rfl rfl
 have h5:=h4.Pv (s':={ s with wd:=upd s.wd a v,wn:=upd s.wn a (wrap64 (s.steps+1)),steps:=wrap64 (s.steps+1),la:=a,lw:=s.who,lc:=true }) 6 _ rfl rfl rfl rfl
 have e:s.step a v={ s with wd:=upd s.wd a v,wn:=upd s.wn a (wrap64 (s.steps+1)),steps:=wrap64 (s.steps+1),la:=a,lw:=s.who,lc:=true }:=by
  simp[Mm.step,hv]
 rw[e];exact h5
set_option maxHeartbeats 400000 in
theorem VL {w:World} {L:Loc} {s:Mm} (h:Z7 w L s) (a:Nat) (ha:a<s.n) (v:Int) :
 Calls Tryz.prog 54 #[pP L.p 0,iV a,.int .u64 v] w fun e w'=>e=.returned (.tuple #[])/\Z7 w' L (s.step a v)/\Only L.has w w'/\w'.heap.size=w.heap.size:=by
 have k0:=h.c0
 have k1:=h.c1
 have k2:=h.c2
 have k3:=h.c3
 have k4:=h.c4
 have k5:=h.c5
 have k6:=h.c6
 have kf:=h.fz
 have kw:=h.words.cell ha
 have kn:=h.BD.cell ha
 have fw:=h.words.frozen
 have fn:=h.BD.frozen
 have d1:=h.d1
 have d2:=h.d2
 have d3:=h.d3
 have hl:=h.len
 by_cases hv:s.wd a=v
 . go_enter Tryz.func54,Tryz.ntmps54
   go_wp2
   go_end0
   refine⟨rfl,Iq h a v hv,?_,by simp⟩
   exact Z7.Uu (Z7.Uu (Z7.Uu (Z7.Uu (Only.refl _ _) (Or.inl rfl) _ _) (Or.inl rfl) _ _) (Or.inl rfl) _ _) (Or.inl rfl) _ _
 . go_enter Tryz.func54,Tryz.ntmps54
   go_wp2
   go_region
   all_goals go_wp2
   all_goals go_end0
   all_goals refine⟨rfl,(Fz h a v hv).drew,Only.drew ?_,by simp⟩
   all_goals exact Z7.Uu (Z7.Uu (Z7.Uu (Only.setCell (Only.setCell (Z7.Uu (Only.refl _ _) (Or.inl rfl) _ _) (fun _=>Or.inr (Or.inl rfl)) _) (fun _=>Or.inr (Or.inr rfl)) _) (Or.inl rfl) _ _) (Or.inl rfl) _ _) (Or.inl rfl) _ _
theorem DD {w:World} {L:Loc} {s:Mm} (h:Z7 w L s) (a:Nat) (ha:a<s.n) :
 Calls Tryz.prog 104 #[pP L.p 0,iV a] w fun e w'=>e=.returned (.tuple #[.int .u64 (s.wd a),iV 0])/\Z7 w' L (s.step a (s.wd a))/\Only L.has w w'/\w'.heap.size=w.heap.size:=by
 have k0:=h.c0
 have kw:=h.words.cell ha
 have hl:=h.len
 have hb:(0:Int)<=(a:Int)/\(a:Int)<(s.n:Int):=by omega
 go_enter Tryz.func104,Tryz.ntmps104
 go_wp2_with (first
  | (go_at_call 53;refine(Vl h _).mono ?_;rintro e w' ⟨rfl,rfl⟩;rw[decide_eq_true hb])
  | (go_at_call 54;refine(VL h _ ha _).mono ?_;rintro e w' ⟨rfl,h1,h2,h3⟩))
 go_ret2
 exact⟨rfl,h1,h2,h3⟩
theorem UA {w:World} {L:Loc} {s:Mm} (h:Z7 w L s) (a:Nat) (ha:a<s.n) (v:Int) :
 Calls Tryz.prog 32 #[pP L.p 0,iV a,.int .u64 v] w fun e w'=>e=.returned (iV 0)/\Z7 w' L (s.step a v)/\Only L.has w w'/\w'.heap.size=w.heap.size:=by
 have hb:(0:Int)<=(a:Int)/\(a:Int)<(s.n:Int):=by omega
 go_enter Tryz.func32,Tryz.ntmps32
 go_wp2_with (first
  | (go_at_call 53;refine(Vl h _).mono ?_;rintro e w' ⟨rfl,rfl⟩;rw[decide_eq_true hb])
  | (go_at_call 54;refine(VL h _ ha _).mono ?_;rintro e w' ⟨rfl,h1,h2,h3⟩))
 go_ret
 exact⟨rfl,h1,h2,h3⟩
def Mm.Wi (s:Mm) (a:Nat) (old v:Int):Mm:=if s.wd a=old then s.step a v else s.step a (s.wd a)
set_option maxHeartbeats 400000 in
theorem Ak {w:World} {L:Loc} {s:Mm} (h:Z7 w L s) (a:Nat) (ha:a<s.n) (old v:Int) :
 Calls Tryz.prog 153 #[pP L.p 0,iV a,.int .u64 old,.int .u64 v] w fun e w'=>e=.returned (.tuple #[.bool (decide (s.wd a=old)),iV 0])/\Z7 w' L (s.Wi a old v)/\Only L.has w w'/\w'.heap.size=w.heap.size:=by
 have k0:=h.c0
 have kw:=h.words.cell ha
 have hl:=h.len
 have hb:(0:Int)<=(a:Int)/\(a:Int)<(s.n:Int):=by omega
 by_cases hv:s.wd a=old
 . go_enter Tryz.func153,Tryz.ntmps153
   go_wp2_with (first
    | (go_at_call 53;refine(Vl h _).mono ?_;rintro e w' ⟨rfl,rfl⟩;rw[decide_eq_true hb])
    | (go_at_call 54;refine(VL h _ ha _).mono ?_;rintro e w' ⟨rfl,h1,h2,h3⟩))
   go_ret2
   exact⟨by rw[decide_eq_true hv];rfl,by rw[Mm.Wi,if_pos hv];exact h1,h2,h3⟩
 . go_enter Tryz.func153,Tryz.ntmps153
   go_wp2_with (first
    | (go_at_call 53;refine(Vl h _).mono ?_;rintro e w' ⟨rfl,rfl⟩;rw[decide_eq_true hb])
    | (go_at_call 54;refine(VL h _ ha _).mono ?_;rintro e w' ⟨rfl,h1,h2,h3⟩))
   go_ret2
   exact⟨by rw[decide_eq_false hv];rfl,by rw[Mm.Wi,if_neg hv];exact h1,h2,h3⟩
def sum64 (x y:Int):Int:=(x+y) % 18446744073709551616
theorem Aj {w:World} {L:Loc} {s:Mm} (h:Z7 w L s) (a:Nat) (ha:a<s.n) (v:Int) :
 Calls Tryz.prog 143 #[pP L.p 0,iV a,.int .u64 v] w fun e w'=>e=.returned (.tuple #[.int .u64 (s.wd a),iV 0])/\Z7 w' L (s.step a (sum64 (s.wd a) v))/\Only L.has w w'/\w'.heap.size=w.heap.size:=by
 have k0:=h.c0
 have kw:=h.words.cell ha
 have hl:=h.len
 have hb:(0:Int)<=(a:Int)/\(a:Int)<(s.n:Int):=by omega
 go_enter Tryz.func143,Tryz.ntmps143
 go_wp2_with (first
  | (go_at_call 53;refine(Vl h _).mono ?_;rintro e w' ⟨rfl,rfl⟩;rw[decide_eq_true hb])
  | (go_at_call 54;refine(VL h _ ha _).mono ?_;rintro e w' ⟨rfl,h1,h2,h3⟩))
 go_ret2
 exact⟨rfl,h1,h2,h3⟩
theorem DI {w:World} {L:Loc} {s:Mm} (h:Z7 w L s) (a:Nat) (ha:a<s.n) :
 Calls Tryz.prog 174 #[pP L.p 0,iV a] w fun e w'=>e=.returned (iV (s.wn a))/\w'=w:=by
 have k0:=h.c1
 have kw:=h.BD.cell ha
 have hl:=h.len
 have hb:(0:Int)<=(a:Int)/\(a:Int)<(s.n:Int):=by omega
 go_enter Tryz.func174,Tryz.ntmps174
 go_wp2_with (go_at_call 53;refine(Vl h _).mono ?_;rintro e w' ⟨rfl,rfl⟩;rw[decide_eq_true hb])
 go_ret
 exact⟨rfl,rfl⟩
theorem len_any {w:World} {L:Loc} {s:Mm} (h:Z7 w L s) :
 Calls Tryz.prog 144 #[pP L.p 0] w fun e w'=>e=.returned (iV s.n)/\w'=w:=by
 have k0:=h.c0
 go_enter Tryz.func144,Tryz.ntmps144
 go_wp2
 go_ret
 exact⟨rfl,rfl⟩
theorem I8 {w:World} {L:Loc} {s:Mm} (h:Z7 w L s) :
 Calls Tryz.prog 129 #[pP L.p 0] w fun e w'=>e=.returned (iV s.steps)/\w'=w:=by
 have k0:=h.c3
 go_enter Tryz.func129,Tryz.ntmps129
 go_wp2
 go_ret
 exact⟨rfl,rfl⟩
theorem PO {w:World} {L:Loc} {s:Mm} (h:Z7 w L s) (who:Int) :
 Calls Tryz.prog 96 #[pP L.p 0,iV who] w fun e w'=>e=.returned (.tuple #[])/\Z7 w' L { s with who:=who }/\Only L.has w w'/\w'.heap.size=w.heap.size:=by
 have k2:=h.c2
 have kf:=h.fz
 go_enter Tryz.func96,Tryz.ntmps96
 go_wp2
 go_end0
 exact⟨rfl,h.Pv 2 _ rfl rfl rfl rfl,Z7.Uu (Only.refl _ _) (Or.inl rfl) _ _,by simp⟩
def Mm.fresh (n:Nat):Mm:=⟨n,fun _=>0,fun _=>0,0,0,0,0,false⟩
theorem Tryz.zN:(Tryz.prog.info? 3).map (fun i=>(i.zero,i.size,i.bytes))=some (some (iV 0),1,8):=by kernel_rfl
theorem Tryz.CW:(Tryz.prog.info? 39).map (fun i=>(i.zero,i.size,i.bytes))=some (some (.int .u64 0),1,8):=by kernel_rfl
theorem Lj {w:World} (n:Nat):Z7 ((((w.alloc (.cells (madeCells #[.int .u64 0] n) 39)).alloc (.cells (madeCells #[iV 0] n) 3)).alloc (.cells ((Mm.fresh n).cells ⟨w.heap.size+1+1,w.heap.size,w.heap.size+1⟩) 97)).drew) ⟨w.heap.size+1+1,w.heap.size,w.heap.size+1⟩ (Mm.fresh n)\/1048576<n:=by
 by_cases h:n<=1048576
 . left
   refine Z7.drew ⟨?_,?_,?_,by simp only;omega,by simp only;omega,by simp only;omega,h⟩
   . have e:=Go.Deep.blk_alloc_new ((w.alloc (.cells (madeCells #[.int .u64 0] n) 39)).alloc (.cells (madeCells #[iV 0] n) 3)) (.cells ((Mm.fresh n).cells ⟨w.heap.size+1+1,w.heap.size,w.heap.size+1⟩) 97)
     simp only[Go.Deep.nblk_alloc] at e
     exact e
   . exact((World.rowIs_made w (.int .u64 0) n 39).alloc _).alloc _
   . have e:=(World.rowIs_made (w.alloc (.cells (madeCells #[.int .u64 0] n) 39)) (iV 0) n 3)
     simp only[Go.Deep.nblk_alloc] at e
     exact e.alloc _
 . right;omega
theorem Lh {w:World} (n:Nat):Z7 ((((w.alloc (.cells (madeCells #[iV 0] n) 3)).alloc (.cells (madeCells #[.int .u64 0] n) 39)).alloc (.cells ((Mm.fresh n).cells ⟨w.heap.size+1+1,w.heap.size+1,w.heap.size⟩) 97)).drew) ⟨w.heap.size+1+1,w.heap.size+1,w.heap.size⟩ (Mm.fresh n)\/1048576<n:=by
 by_cases h:n<=1048576
 . left
   refine Z7.drew ⟨?_,?_,?_,by simp only;omega,by simp only;omega,by simp only;omega,h⟩
   . have e:=Go.Deep.blk_alloc_new ((w.alloc (.cells (madeCells #[iV 0] n) 3)).alloc (.cells (madeCells #[.int .u64 0] n) 39)) (.cells ((Mm.fresh n).cells ⟨w.heap.size+1+1,w.heap.size+1,w.heap.size⟩) 97)
     simp only[Go.Deep.nblk_alloc] at e
     exact e
   . have e:=(World.rowIs_made (w.alloc (.cells (madeCells #[iV 0] n) 3)) (.int .u64 0) n 39)
     simp only[Go.Deep.nblk_alloc] at e
     exact e.alloc _
   . exact((World.rowIs_made w (iV 0) n 3).alloc _).alloc _
 . right;omega
theorem NQ (m:Nat) (k:Nat) (h:Loc.has ⟨m+1+1,m,m+1⟩ k\/Loc.has ⟨m+1+1,m+1,m⟩ k):m<=k:=by
 unfold Loc.has at h
 simp only at h
 omega
theorem Ai (n:Nat) (h1:1<=n) (h2:n<=1048576) (w:World) :
 Calls Tryz.prog 30 #[iV n] w fun e w'=>∃ L:Loc,e=.returned (.tuple #[pP L.p 0,iV 0])/\Z7 w' L (Mm.fresh n)/\Below w.heap.size w w'/\∀ k,L.has k->w.heap.size<=k:=by
 have hm1:=run_make_row' (P:=Tryz.prog) 36 39 (.int .u64 0) 8 Tryz.underlying36 Tryz.CW rfl .i64 .i64 n (by omega) (by omega)
 have hm2:=run_make_row' (P:=Tryz.prog) 93 3 (iV 0) 8 Tryz.underlying93 Tryz.zN rfl .i64 .i64 n (by omega) (by omega)
 go_enter Tryz.func30,Tryz.ntmps30
 go_wp2
 go_region
 all_goals go_wp2
 all_goals go_ret2
 . exact⟨⟨w.heap.size+1+1,w.heap.size,w.heap.size+1⟩,rfl,(Lj n).resolve_right (by omega),((((Below.refl _ _).alloc (Nat.le_refl _) _).alloc (by simp) _).alloc (by simp;omega) _).drew,fun k hk=>NQ _ _ (Or.inl hk)⟩
 . exact⟨⟨w.heap.size+1+1,w.heap.size+1,w.heap.size⟩,rfl,(Lh n).resolve_right (by omega),((((Below.refl _ _).alloc (Nat.le_refl _) _).alloc (by simp) _).alloc (by simp;omega) _).drew,fun k hk=>NQ _ _ (Or.inr hk)⟩
theorem nb {w:World} {L:Loc} {s:Mm} {b:Nat} (h:Z7 w L s) (hi:b<w.heap.size):¬ L.has w.heap.size∧¬ w.heap.size=b := ⟨fun hh => by have := h.lt _ hh; omega, by omega⟩
end Go.Proofs.YtibmjlefcaonnaaGreat
