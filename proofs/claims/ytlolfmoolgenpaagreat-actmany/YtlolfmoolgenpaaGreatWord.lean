import Derived.Test.YtlolfmoolgenpaaGreatRows
import Derived.Test.YtlolfmoolgenpaaGreatLay
import Derived.Deep.QuietTactic
import Derived.BigQuiet
namespace Go.Proofs.YtlolfmoolgenpaaGreat
open Go.RowKit
structure Mm where
 n : Nat
 wd : Nat -> Int
 wn : Nat -> Int
 who : Int
 steps : Int
 la : Int
 lw : Int
 lc : Bool
structure Loc where
 p : Nat
 bw : Nat
 bn : Nat
def Loc.has (L : Loc) (k : Nat) : Prop:=k = L.p \/ k = L.bw \/ k = L.bn
def Mm.cells (L : Loc) (s : Mm) : Array Value :=
 #[.slice (some ⟨L.bw,0,none⟩) s.n s.n,.slice (some ⟨L.bn,0,none⟩) s.n s.n,.int .i64 s.who,.int .i64 s.steps,.int .i64 s.la,.int .i64 s.lw,.bool s.lc]
structure MemAt (w : World) (L : Loc) (s : Mm) : Prop where
 obj : w.heap[L.p]? = some (.cells (s.cells L) 76 (0,0))
 words : w.rowIs L.bw 34 s.n (fun i=>.int .u64 (s.wd i))
 wns : w.rowIs L.bn 3 s.n (fun i=>.int .i64 (s.wn i))
 d1 : L.p ≠ L.bw
 d2 : L.p ≠ L.bn
 d3 : L.bw ≠ L.bn
 len : s.n <= 1048576
namespace MemAt
variable {w w' : World} {L : Loc} {s : Mm}
theorem c0 (h : MemAt w L s) : w.cell? ⟨L.p,0,none⟩ = some (.slice (some ⟨L.bw,0,none⟩) s.n s.n):=blk_cell h.obj rfl
theorem c1 (h : MemAt w L s) : w.cell? ⟨L.p,1,none⟩ = some (.slice (some ⟨L.bn,0,none⟩) s.n s.n):=blk_cell h.obj rfl
theorem c2 (h : MemAt w L s) : w.cell? ⟨L.p,2,none⟩ = some (.int .i64 s.who):=blk_cell h.obj rfl
theorem c3 (h : MemAt w L s) : w.cell? ⟨L.p,3,none⟩ = some (.int .i64 s.steps):=blk_cell h.obj rfl
theorem c4 (h : MemAt w L s) : w.cell? ⟨L.p,4,none⟩ = some (.int .i64 s.la):=blk_cell h.obj rfl
theorem c5 (h : MemAt w L s) : w.cell? ⟨L.p,5,none⟩ = some (.int .i64 s.lw):=blk_cell h.obj rfl
theorem c6 (h : MemAt w L s) : w.cell? ⟨L.p,6,none⟩ = some (.bool s.lc):=blk_cell h.obj rfl
theorem fz (h : MemAt w L s) (o : Nat) : w.frozen? ⟨L.p,o,none⟩ = false:=blk_frozen h.obj o
theorem of_blocks (h : MemAt w L s) (e : ∀ k,L.has k -> w'.heap[k]? = w.heap[k]?) : MemAt w' L s :=
 ⟨(e _ (Or.inl rfl)).trans h.obj,h.words.of_block (e _ (Or.inr (Or.inl rfl))),h.wns.of_block (e _ (Or.inr (Or.inr rfl))),h.d1,h.d2,h.d3,h.len⟩
theorem lt (h : MemAt w L s) (k : Nat) (hk : L.has k) : k < w.heap.size:=by
 rcases hk with rfl | rfl | rfl
 · exact blk_lt h.obj
 · exact h.words.lt
 · exact h.wns.lt
theorem only {S : Nat -> Prop} (h : MemAt w L s) (k : Only S w w') (hS : ∀ i,L.has i -> ¬ S i) : MemAt w' L s :=
 h.of_blocks fun i hi=>k.block i (h.lt i hi) (hS i hi)
theorem below (h : MemAt w L s) (k : Below w.heap.size w w') : MemAt w' L s:=h.of_blocks fun i hi=>k.block i (h.lt i hi)
theorem alloc (h : MemAt w L s) (o : Obj) : MemAt (w.alloc o) L s:=h.of_blocks fun i hi=>Go.Deep.blk_alloc_lt _ _ _ (h.lt i hi)
theorem drew (h : MemAt w L s) : MemAt w.drew L s:=h.of_blocks fun _ _=>rfl
theorem setP {s' : Mm} (h : MemAt w L s) (o : Nat) (v : Value) (hc : (s.cells L).setIfInBounds o v = s'.cells L) (hn : s'.n = s.n) (hw : s'.wd = s.wd) (hk : s'.wn = s.wn) : MemAt (w.setCell ⟨L.p,o,none⟩ v) L s':=by
 refine ⟨?_,?_,?_,h.d1,h.d2,h.d3,by rw [hn];exact h.len⟩
 · rw [<- hc];exact blk_setCell _ _ _ _ _ _ h.obj
 · rw [hn,hw];exact h.words.setOther (by simpa using h.d1.symm) _
 · rw [hn,hk];exact h.wns.setOther (by simpa using h.d2.symm) _
theorem setW (h : MemAt w L s) (a : Nat) (v : Int) : MemAt (w.setCell ⟨L.bw,a,none⟩ (.int .u64 v)) L { s with wd:=upd s.wd a v }:=by
 refine ⟨?_,?_,?_,h.d1,h.d2,h.d3,h.len⟩
 · rw [Go.Deep.blk_setCell_other _ _ _ _ (by simpa using h.d1)];exact h.obj
 · refine (h.words.set a (.int .u64 v)).congr fun i _=>?_
   show _ = Value.int .u64 (upd s.wd a v i)
   unfold upd;split <;> rfl
 · exact h.wns.setOther (by simpa using h.d3.symm) _
theorem setN (h : MemAt w L s) (a : Nat) (v : Int) : MemAt (w.setCell ⟨L.bn,a,none⟩ (.int .i64 v)) L { s with wn:=upd s.wn a v }:=by
 refine ⟨?_,?_,?_,h.d1,h.d2,h.d3,h.len⟩
 · rw [Go.Deep.blk_setCell_other _ _ _ _ (by simpa using h.d2)];exact h.obj
 · exact h.words.setOther (by simpa using h.d3) _
 · refine (h.wns.set a (.int .i64 v)).congr fun i _=>?_
   show _ = Value.int .i64 (upd s.wn a v i)
   unfold upd;split <;> rfl
theorem onlyP {S : Nat -> Prop} {w0 : World} (k : Only S w0 w) (hS : S L.p) (o : Nat) (v : Value) : Only S w0 (w.setCell ⟨L.p,o,none⟩ v):=k.setCell (fun _=>hS) v
theorem other (h : MemAt w L s) {a : Addr} (ha : ¬ L.has a.block) (v : Value) : MemAt (w.setCell a v) L s :=
 h.of_blocks fun _ hi=>Go.Deep.blk_setCell_other _ _ _ _ (fun e=>ha (e ▸ hi))
end MemAt
def Mm.step (s : Mm) (a : Nat) (v : Int) : Mm :=
 { s with wd:=upd s.wd a v,wn:=if s.wd a = v then s.wn else upd s.wn a (wrap64 (s.steps + 1)),steps:=wrap64 (s.steps + 1),la:=a,lw:=s.who,lc:=!decide (s.wd a = v) }
set_option maxHeartbeats 400000 in
theorem has_any {w : World} {L : Loc} {s : Mm} (h : MemAt w L s) (a : Int) :
 Calls Tryz.prog 23 #[.pointer (some ⟨L.p,0,none⟩),.int .i64 a] w fun e w'=>e = .returned (.bool (decide (0 <= a /\ a < s.n))) /\ w' = w:=by
 have hc:=h.c0
 by_cases h1 : 0 <= a
 · by_cases h2 : a < s.n
   · go_enter Tryz.func23,Tryz.ntmps23
     go_wp2
     go_ret
     exact ⟨by simp [h1,h2],rfl⟩
   · go_enter Tryz.func23,Tryz.ntmps23
     go_wp2
     go_ret
     exact ⟨by simp [h2],rfl⟩
 · go_enter Tryz.func23,Tryz.ntmps23
   go_wp2
   go_ret
   exact ⟨by simp;omega,rfl⟩
theorem step_same {w : World} {L : Loc} {s : Mm} (h : MemAt w L s) (a : Nat) (v : Int) (hv : s.wd a = v) :
 MemAt ((((w.setCell ⟨L.p,3,none⟩ (.int .i64 (wrap64 (s.steps + 1)))).setCell ⟨L.p,4,none⟩ (.int .i64 a)).setCell ⟨L.p,5,none⟩ (.int .i64 s.who)).setCell ⟨L.p,6,none⟩ (.bool false)) L (s.step a v):=by
 have h1:=h.setP (s':={ s with steps:=wrap64 (s.steps + 1) }) 3 _ rfl rfl rfl rfl
 have h2:=h1.setP (s':={ s with steps:=wrap64 (s.steps + 1),la:=a }) 4 _ rfl rfl rfl rfl
 have h3:=h2.setP (s':={ s with steps:=wrap64 (s.steps + 1),la:=a,lw:=s.who }) 5 _ rfl rfl rfl rfl
 have h4:=h3.setP (s':={ s with steps:=wrap64 (s.steps + 1),la:=a,lw:=s.who,lc:=false }) 6 _ rfl rfl rfl rfl
 have e : s.step a v = { s with steps:=wrap64 (s.steps + 1),la:=a,lw:=s.who,lc:=false }:=by
  subst hv
  simp [Mm.step,upd_id]
 rw [e];exact h4
theorem step_new {w : World} {L : Loc} {s : Mm} (h : MemAt w L s) (a : Nat) (v : Int) (hv : ¬ s.wd a = v) :
 MemAt ((((((w.setCell ⟨L.p,3,none⟩ (.int .i64 (wrap64 (s.steps + 1)))).setCell ⟨L.bw,a,none⟩ (.int .u64 v)).setCell ⟨L.bn,a,none⟩ (.int .i64 (wrap64 (s.steps + 1)))).setCell ⟨L.p,4,none⟩ (.int .i64 a)).setCell ⟨L.p,5,none⟩ (.int .i64 s.who)).setCell ⟨L.p,6,none⟩ (.bool true)) L (s.step a v):=by
 have h1:=h.setP (s':={ s with steps:=wrap64 (s.steps + 1) }) 3 _ rfl rfl rfl rfl
 have h2:=(h1.setW a v).setN a (wrap64 (s.steps + 1))
 have h3:=h2.setP (s':={ s with wd:=upd s.wd a v,wn:=upd s.wn a (wrap64 (s.steps + 1)),steps:=wrap64 (s.steps + 1),la:=a }) 4 _ rfl rfl rfl rfl
 have h4:=h3.setP (s':={ s with wd:=upd s.wd a v,wn:=upd s.wn a (wrap64 (s.steps + 1)),steps:=wrap64 (s.steps + 1),la:=a,lw:=s.who }) 5 _ rfl rfl rfl rfl
 have h5:=h4.setP (s':={ s with wd:=upd s.wd a v,wn:=upd s.wn a (wrap64 (s.steps + 1)),steps:=wrap64 (s.steps + 1),la:=a,lw:=s.who,lc:=true }) 6 _ rfl rfl rfl rfl
 have e : s.step a v = { s with wd:=upd s.wd a v,wn:=upd s.wn a (wrap64 (s.steps + 1)),steps:=wrap64 (s.steps + 1),la:=a,lw:=s.who,lc:=true }:=by
  simp [Mm.step,hv]
 rw [e];exact h5
set_option maxHeartbeats 400000 in
theorem step_any {w : World} {L : Loc} {s : Mm} (h : MemAt w L s) (a : Nat) (ha : a < s.n) (v : Int) :
 Calls Tryz.prog 40 #[.pointer (some ⟨L.p,0,none⟩),.int .i64 a,.int .u64 v] w fun e w'=>e = .returned (.tuple #[]) /\ MemAt w' L (s.step a v) /\ Only L.has w w' /\ w'.heap.size = w.heap.size:=by
 have k0:=h.c0
 have k1:=h.c1
 have k2:=h.c2
 have k3:=h.c3
 have k4:=h.c4
 have k5:=h.c5
 have k6:=h.c6
 have kf:=h.fz
 have kw:=h.words.cell ha
 have kn:=h.wns.cell ha
 have fw:=h.words.frozen
 have fn:=h.wns.frozen
 have d1:=h.d1
 have d2:=h.d2
 have d3:=h.d3
 have hl:=h.len
 by_cases hv : s.wd a = v
 · go_enter Tryz.func40,Tryz.ntmps40
   go_wp2
   go_end0
   refine ⟨rfl,step_same h a v hv,?_,by simp⟩
   exact MemAt.onlyP (MemAt.onlyP (MemAt.onlyP (MemAt.onlyP (Only.refl _ _) (Or.inl rfl) _ _) (Or.inl rfl) _ _) (Or.inl rfl) _ _) (Or.inl rfl) _ _
 · go_enter Tryz.func40,Tryz.ntmps40
   go_wp2
   go_region
   all_goals go_wp2
   all_goals go_end0
   all_goals refine ⟨rfl,(step_new h a v hv).drew,Only.drew ?_,by simp⟩
   all_goals exact MemAt.onlyP (MemAt.onlyP (MemAt.onlyP (Only.setCell (Only.setCell (MemAt.onlyP (Only.refl _ _) (Or.inl rfl) _ _) (fun _=>Or.inr (Or.inl rfl)) _) (fun _=>Or.inr (Or.inr rfl)) _) (Or.inl rfl) _ _) (Or.inl rfl) _ _) (Or.inl rfl) _ _
theorem load_in {w : World} {L : Loc} {s : Mm} (h : MemAt w L s) (a : Nat) (ha : a < s.n) :
 Calls Tryz.prog 67 #[.pointer (some ⟨L.p,0,none⟩),.int .i64 a] w fun e w'=>e = .returned (.tuple #[.int .u64 (s.wd a),.int .i64 0]) /\ MemAt w' L (s.step a (s.wd a)) /\ Only L.has w w' /\ w'.heap.size = w.heap.size:=by
 have k0:=h.c0
 have kw:=h.words.cell ha
 have hl:=h.len
 have hb : (0 : Int) <= (a : Int) /\ (a : Int) < (s.n : Int):=by omega
 go_enter Tryz.func67,Tryz.ntmps67
 go_wp2_with (first
  | (go_at_call 23;refine (has_any h _).mono ?_;rintro e w' ⟨rfl,rfl⟩;rw [decide_eq_true hb])
  | (go_at_call 40;refine (step_any h _ ha _).mono ?_;rintro e w' ⟨rfl,h1,h2,h3⟩))
 go_ret2
 exact ⟨rfl,h1,h2,h3⟩
theorem store_in {w : World} {L : Loc} {s : Mm} (h : MemAt w L s) (a : Nat) (ha : a < s.n) (v : Int) :
 Calls Tryz.prog 29 #[.pointer (some ⟨L.p,0,none⟩),.int .i64 a,.int .u64 v] w fun e w'=>e = .returned (.int .i64 0) /\ MemAt w' L (s.step a v) /\ Only L.has w w' /\ w'.heap.size = w.heap.size:=by
 have hb : (0 : Int) <= (a : Int) /\ (a : Int) < (s.n : Int):=by omega
 go_enter Tryz.func29,Tryz.ntmps29
 go_wp2_with (first
  | (go_at_call 23;refine (has_any h _).mono ?_;rintro e w' ⟨rfl,rfl⟩;rw [decide_eq_true hb])
  | (go_at_call 40;refine (step_any h _ ha _).mono ?_;rintro e w' ⟨rfl,h1,h2,h3⟩))
 go_ret
 exact ⟨rfl,h1,h2,h3⟩
def Mm.cas (s : Mm) (a : Nat) (old v : Int) : Mm:=if s.wd a = old then s.step a v else s.step a (s.wd a)
set_option maxHeartbeats 400000 in
theorem cas_in {w : World} {L : Loc} {s : Mm} (h : MemAt w L s) (a : Nat) (ha : a < s.n) (old v : Int) :
 Calls Tryz.prog 114 #[.pointer (some ⟨L.p,0,none⟩),.int .i64 a,.int .u64 old,.int .u64 v] w fun e w'=>e = .returned (.tuple #[.bool (decide (s.wd a = old)),.int .i64 0]) /\ MemAt w' L (s.cas a old v) /\ Only L.has w w' /\ w'.heap.size = w.heap.size:=by
 have k0:=h.c0
 have kw:=h.words.cell ha
 have hl:=h.len
 have hb : (0 : Int) <= (a : Int) /\ (a : Int) < (s.n : Int):=by omega
 by_cases hv : s.wd a = old
 · go_enter Tryz.func114,Tryz.ntmps114
   go_wp2_with (first
    | (go_at_call 23;refine (has_any h _).mono ?_;rintro e w' ⟨rfl,rfl⟩;rw [decide_eq_true hb])
    | (go_at_call 40;refine (step_any h _ ha _).mono ?_;rintro e w' ⟨rfl,h1,h2,h3⟩))
   go_ret2
   exact ⟨by rw [decide_eq_true hv];rfl,by rw [Mm.cas,if_pos hv];exact h1,h2,h3⟩
 · go_enter Tryz.func114,Tryz.ntmps114
   go_wp2_with (first
    | (go_at_call 23;refine (has_any h _).mono ?_;rintro e w' ⟨rfl,rfl⟩;rw [decide_eq_true hb])
    | (go_at_call 40;refine (step_any h _ ha _).mono ?_;rintro e w' ⟨rfl,h1,h2,h3⟩))
   go_ret2
   exact ⟨by rw [decide_eq_false hv];rfl,by rw [Mm.cas,if_neg hv];exact h1,h2,h3⟩
def sum64 (x y : Int) : Int:=(x + y) % 18446744073709551616
theorem add_in {w : World} {L : Loc} {s : Mm} (h : MemAt w L s) (a : Nat) (ha : a < s.n) (v : Int) :
 Calls Tryz.prog 104 #[.pointer (some ⟨L.p,0,none⟩),.int .i64 a,.int .u64 v] w fun e w'=>e = .returned (.tuple #[.int .u64 (s.wd a),.int .i64 0]) /\ MemAt w' L (s.step a (sum64 (s.wd a) v)) /\ Only L.has w w' /\ w'.heap.size = w.heap.size:=by
 have k0:=h.c0
 have kw:=h.words.cell ha
 have hl:=h.len
 have hb : (0 : Int) <= (a : Int) /\ (a : Int) < (s.n : Int):=by omega
 go_enter Tryz.func104,Tryz.ntmps104
 go_wp2_with (first
  | (go_at_call 23;refine (has_any h _).mono ?_;rintro e w' ⟨rfl,rfl⟩;rw [decide_eq_true hb])
  | (go_at_call 40;refine (step_any h _ ha _).mono ?_;rintro e w' ⟨rfl,h1,h2,h3⟩))
 go_ret2
 exact ⟨rfl,h1,h2,h3⟩
theorem peek_in {w : World} {L : Loc} {s : Mm} (h : MemAt w L s) (a : Nat) (ha : a < s.n) :
 Calls Tryz.prog 15 #[.pointer (some ⟨L.p,0,none⟩),.int .i64 a] w fun e w'=>e = .returned (.int .u64 (s.wd a)) /\ w' = w:=by
 have k0:=h.c0
 have kw:=h.words.cell ha
 have hl:=h.len
 have hb : (0 : Int) <= (a : Int) /\ (a : Int) < (s.n : Int):=by omega
 go_enter Tryz.func15,Tryz.ntmps15
 go_wp2_with (go_at_call 23;refine (has_any h _).mono ?_;rintro e w' ⟨rfl,rfl⟩;rw [decide_eq_true hb])
 go_ret
 exact ⟨rfl,rfl⟩
theorem when_in {w : World} {L : Loc} {s : Mm} (h : MemAt w L s) (a : Nat) (ha : a < s.n) :
 Calls Tryz.prog 135 #[.pointer (some ⟨L.p,0,none⟩),.int .i64 a] w fun e w'=>e = .returned (.int .i64 (s.wn a)) /\ w' = w:=by
 have k0:=h.c1
 have kw:=h.wns.cell ha
 have hl:=h.len
 have hb : (0 : Int) <= (a : Int) /\ (a : Int) < (s.n : Int):=by omega
 go_enter Tryz.func135,Tryz.ntmps135
 go_wp2_with (go_at_call 23;refine (has_any h _).mono ?_;rintro e w' ⟨rfl,rfl⟩;rw [decide_eq_true hb])
 go_ret
 exact ⟨rfl,rfl⟩
theorem len_any {w : World} {L : Loc} {s : Mm} (h : MemAt w L s) :
 Calls Tryz.prog 105 #[.pointer (some ⟨L.p,0,none⟩)] w fun e w'=>e = .returned (.int .i64 s.n) /\ w' = w:=by
 have k0:=h.c0
 go_enter Tryz.func105,Tryz.ntmps105
 go_wp2
 go_ret
 exact ⟨rfl,rfl⟩
theorem steps_any {w : World} {L : Loc} {s : Mm} (h : MemAt w L s) :
 Calls Tryz.prog 24 #[.pointer (some ⟨L.p,0,none⟩)] w fun e w'=>e = .returned (.int .i64 s.steps) /\ w' = w:=by
 have k0:=h.c3
 go_enter Tryz.func24,Tryz.ntmps24
 go_wp2
 go_ret
 exact ⟨rfl,rfl⟩
theorem by_any {w : World} {L : Loc} {s : Mm} (h : MemAt w L s) (who : Int) :
 Calls Tryz.prog 60 #[.pointer (some ⟨L.p,0,none⟩),.int .i64 who] w fun e w'=>e = .returned (.tuple #[]) /\ MemAt w' L { s with who:=who } /\ Only L.has w w' /\ w'.heap.size = w.heap.size:=by
 have k2:=h.c2
 have kf:=h.fz
 go_enter Tryz.func60,Tryz.ntmps60
 go_wp2
 go_end0
 exact ⟨rfl,h.setP 2 _ rfl rfl rfl rfl,MemAt.onlyP (Only.refl _ _) (Or.inl rfl) _ _,by simp⟩
def Mm.fresh (n : Nat) : Mm:=⟨n,fun _=>0,fun _=>0,0,0,0,0,false⟩
theorem Tryz.infoW3 : (Tryz.prog.info? 3).map (fun i=>(i.zero,i.size,i.bytes)) = some (some (.int .i64 0),1,8):=by kernel_rfl
theorem Tryz.infoW34 : (Tryz.prog.info? 34).map (fun i=>(i.zero,i.size,i.bytes)) = some (some (.int .u64 0),1,8):=by kernel_rfl
theorem born_words {w : World} (n : Nat) : MemAt ((((w.alloc (.cells (madeCells #[.int .u64 0] n) 34)).alloc (.cells (madeCells #[.int .i64 0] n) 3)).alloc (.cells ((Mm.fresh n).cells ⟨w.heap.size + 1 + 1,w.heap.size,w.heap.size + 1⟩) 76)).drew) ⟨w.heap.size + 1 + 1,w.heap.size,w.heap.size + 1⟩ (Mm.fresh n) \/ 1048576 < n:=by
 by_cases h : n <= 1048576
 · left
   refine MemAt.drew ⟨?_,?_,?_,by simp only;omega,by simp only;omega,by simp only;omega,h⟩
   · have e:=Go.Deep.blk_alloc_new ((w.alloc (.cells (madeCells #[.int .u64 0] n) 34)).alloc (.cells (madeCells #[.int .i64 0] n) 3)) (.cells ((Mm.fresh n).cells ⟨w.heap.size + 1 + 1,w.heap.size,w.heap.size + 1⟩) 76)
     simp only [Go.Deep.nblk_alloc] at e
     exact e
   · exact ((World.rowIs_made w (.int .u64 0) n 34).alloc _).alloc _
   · have e:=(World.rowIs_made (w.alloc (.cells (madeCells #[.int .u64 0] n) 34)) (.int .i64 0) n 3)
     simp only [Go.Deep.nblk_alloc] at e
     exact e.alloc _
 · right;omega
theorem born_whens {w : World} (n : Nat) : MemAt ((((w.alloc (.cells (madeCells #[.int .i64 0] n) 3)).alloc (.cells (madeCells #[.int .u64 0] n) 34)).alloc (.cells ((Mm.fresh n).cells ⟨w.heap.size + 1 + 1,w.heap.size + 1,w.heap.size⟩) 76)).drew) ⟨w.heap.size + 1 + 1,w.heap.size + 1,w.heap.size⟩ (Mm.fresh n) \/ 1048576 < n:=by
 by_cases h : n <= 1048576
 · left
   refine MemAt.drew ⟨?_,?_,?_,by simp only;omega,by simp only;omega,by simp only;omega,h⟩
   · have e:=Go.Deep.blk_alloc_new ((w.alloc (.cells (madeCells #[.int .i64 0] n) 3)).alloc (.cells (madeCells #[.int .u64 0] n) 34)) (.cells ((Mm.fresh n).cells ⟨w.heap.size + 1 + 1,w.heap.size + 1,w.heap.size⟩) 76)
     simp only [Go.Deep.nblk_alloc] at e
     exact e
   · have e:=(World.rowIs_made (w.alloc (.cells (madeCells #[.int .i64 0] n) 3)) (.int .u64 0) n 34)
     simp only [Go.Deep.nblk_alloc] at e
     exact e.alloc _
   · exact ((World.rowIs_made w (.int .i64 0) n 3).alloc _).alloc _
 · right;omega
theorem born_has (m : Nat) (k : Nat) (h : Loc.has ⟨m + 1 + 1,m,m + 1⟩ k \/ Loc.has ⟨m + 1 + 1,m + 1,m⟩ k) : m <= k:=by
 unfold Loc.has at h
 simp only at h
 omega
theorem new_in (n : Nat) (h1 : 1 <= n) (h2 : n <= 1048576) (w : World) :
 Calls Tryz.prog 27 #[.int .i64 n] w fun e w'=>∃ L : Loc,e = .returned (.tuple #[.pointer (some ⟨L.p,0,none⟩),.int .i64 0]) /\ MemAt w' L (Mm.fresh n) /\ Below w.heap.size w w' /\ ∀ k,L.has k -> w.heap.size <= k:=by
 have hm1:=run_make_row' (P:=Tryz.prog) 31 34 (.int .u64 0) 8 Tryz.underlying31 Tryz.infoW34 rfl .i64 .i64 n (by omega) (by omega)
 have hm2:=run_make_row' (P:=Tryz.prog) 43 3 (.int .i64 0) 8 Tryz.underlying43 Tryz.infoW3 rfl .i64 .i64 n (by omega) (by omega)
 go_enter Tryz.func27,Tryz.ntmps27
 go_wp2
 go_region
 all_goals go_wp2
 all_goals go_ret2
 · exact ⟨⟨w.heap.size + 1 + 1,w.heap.size,w.heap.size + 1⟩,rfl,(born_words n).resolve_right (by omega),((((Below.refl _ _).alloc (Nat.le_refl _) _).alloc (by simp) _).alloc (by simp;omega) _).drew,fun k hk=>born_has _ _ (Or.inl hk)⟩
 · exact ⟨⟨w.heap.size + 1 + 1,w.heap.size + 1,w.heap.size⟩,rfl,(born_whens n).resolve_right (by omega),((((Below.refl _ _).alloc (Nat.le_refl _) _).alloc (by simp) _).alloc (by simp;omega) _).drew,fun k hk=>born_has _ _ (Or.inr hk)⟩
end Go.Proofs.YtlolfmoolgenpaaGreat

namespace Go.Proofs.YtlolfmoolgenpaaGreat
open Go.RowKit
def Mm.by (s : Mm) (who : Int) : Mm:={ s with who:=who }
theorem eload_in {w : World} {L : Loc} {s : Mm} (h : MemAt w L s) (c0 c1 c2 c3 c4 c5 c6 who : Int) (a : Nat) (ha : a < s.n) :
 Calls Tryz.prog 64 #[.agg #[.int .i64 c0,.int .i64 c1,.int .i64 c2,.int .i64 c3,.int .i64 c4,.int .i64 c5,.int .i64 c6,.pointer (some ⟨L.p,0,none⟩),.int .i64 who],.int .i64 a] w fun e w'=>e = .returned (.int .u64 (s.wd a)) /\ MemAt w' L ((s.by who).step a (s.wd a)) /\ Only L.has w w':=by
 go_enter Tryz.func64,Tryz.ntmps64
 go_wp2_with (first
  | (go_at_call 60;refine (by_any (h.alloc _) _).mono ?_;rintro e w1 ⟨rfl,m1,o1,z1⟩;have k7:=o1.keep (b:=w.heap.size) (o:=7) (v:=.pointer (some ⟨L.p,0,none⟩)) (fun hh=>by have:=h.lt _ hh;omega) (by simp))
  | (go_at_call 67;refine (load_in m1 a ha).mono ?_;rintro e w2 ⟨rfl,m2,o2,z2⟩))
 go_ret
 exact ⟨rfl,m2,((Only.refl _ _).alloc _).trans (o1.trans o2)⟩
theorem estore_in {w : World} {L : Loc} {s : Mm} (h : MemAt w L s) (c0 c1 c2 c3 c4 c5 c6 who : Int) (a : Nat) (ha : a < s.n) (v : Int) :
 Calls Tryz.prog 66 #[.agg #[.int .i64 c0,.int .i64 c1,.int .i64 c2,.int .i64 c3,.int .i64 c4,.int .i64 c5,.int .i64 c6,.pointer (some ⟨L.p,0,none⟩),.int .i64 who],.int .i64 a,.int .u64 v] w fun e w'=>e = .returned (.tuple #[]) /\ MemAt w' L ((s.by who).step a v) /\ Only L.has w w':=by
 go_enter Tryz.func66,Tryz.ntmps66
 go_wp2_with (first
  | (go_at_call 60;refine (by_any (h.alloc _) _).mono ?_;rintro e w1 ⟨rfl,m1,o1,z1⟩;have k7:=o1.keep (b:=w.heap.size) (o:=7) (v:=.pointer (some ⟨L.p,0,none⟩)) (fun hh=>by have:=h.lt _ hh;omega) (by simp))
  | (go_at_call 29;refine (store_in m1 a ha _).mono ?_;rintro e w2 ⟨rfl,m2,o2,z2⟩))
 go_end0
 exact ⟨rfl,m2,((Only.refl _ _).alloc _).trans (o1.trans o2)⟩
theorem ecas_in {w : World} {L : Loc} {s : Mm} (h : MemAt w L s) (c0 c1 c2 c3 c4 c5 c6 who : Int) (a : Nat) (ha : a < s.n) (old v : Int) :
 Calls Tryz.prog 107 #[.agg #[.int .i64 c0,.int .i64 c1,.int .i64 c2,.int .i64 c3,.int .i64 c4,.int .i64 c5,.int .i64 c6,.pointer (some ⟨L.p,0,none⟩),.int .i64 who],.int .i64 a,.int .u64 old,.int .u64 v] w fun e w'=>e = .returned (.bool (decide (s.wd a = old))) /\ MemAt w' L ((s.by who).cas a old v) /\ Only L.has w w':=by
 go_enter Tryz.func107,Tryz.ntmps107
 go_wp2_with (first
  | (go_at_call 60;refine (by_any (h.alloc _) _).mono ?_;rintro e w1 ⟨rfl,m1,o1,z1⟩;have k7:=o1.keep (b:=w.heap.size) (o:=7) (v:=.pointer (some ⟨L.p,0,none⟩)) (fun hh=>by have:=h.lt _ hh;omega) (by simp))
  | (go_at_call 114;refine (cas_in m1 a ha _ _).mono ?_;rintro e w2 ⟨rfl,m2,o2,z2⟩))
 go_ret
 exact ⟨rfl,m2,((Only.refl _ _).alloc _).trans (o1.trans o2)⟩
def word64 (d : Int) : Int:=d % 18446744073709551616
theorem eadd_in {w : World} {L : Loc} {s : Mm} (h : MemAt w L s) (c0 c1 c2 c3 c4 c5 c6 who : Int) (a : Nat) (ha : a < s.n) (d : Int) :
 Calls Tryz.prog 87 #[.agg #[.int .i64 c0,.int .i64 c1,.int .i64 c2,.int .i64 c3,.int .i64 c4,.int .i64 c5,.int .i64 c6,.pointer (some ⟨L.p,0,none⟩),.int .i64 who],.int .i64 a,.int .i64 d] w fun e w'=>e = .returned (.tuple #[]) /\ MemAt w' L ((s.by who).step a (sum64 (s.wd a) (word64 d))) /\ Only L.has w w':=by
 go_enter Tryz.func87,Tryz.ntmps87
 go_wp2_with (first
  | (go_at_call 60;refine (by_any (h.alloc _) _).mono ?_;rintro e w1 ⟨rfl,m1,o1,z1⟩;have k7:=o1.keep (b:=w.heap.size) (o:=7) (v:=.pointer (some ⟨L.p,0,none⟩)) (fun hh=>by have:=h.lt _ hh;omega) (by simp))
  | (go_at_call 104;refine (add_in m1 a ha _).mono ?_;rintro e w2 ⟨rfl,m2,o2,z2⟩))
 go_end0
 exact ⟨rfl,m2,((Only.refl _ _).alloc _).trans (o1.trans o2)⟩
theorem enow_any {w : World} {L : Loc} {s : Mm} (h : MemAt w L s) (c0 c1 c2 c3 c4 c5 c6 who : Int) :
 Calls Tryz.prog 17 #[.agg #[.int .i64 c0,.int .i64 c1,.int .i64 c2,.int .i64 c3,.int .i64 c4,.int .i64 c5,.int .i64 c6,.pointer (some ⟨L.p,0,none⟩),.int .i64 who]] w fun e w'=>e = .returned (.int .i64 s.steps) /\ Below w.heap.size w w':=by
 go_enter Tryz.func17,Tryz.ntmps17
 go_wp2_with (go_at_call 24;refine (steps_any (h.alloc _)).mono ?_;rintro e w1 ⟨rfl,rfl⟩)
 go_ret
 exact ⟨rfl,grow_alloc (Below.refl _ _) _⟩
end Go.Proofs.YtlolfmoolgenpaaGreat

namespace Go.Proofs.YtlolfmoolgenpaaGreat
open Go.RowKit
set_option maxHeartbeats 400000 in
theorem most_any (b : Int) (w : World) (h0 : 0 <= b) (h1 : b < 64) :
 Calls Tryz.prog 44 #[.int .u64 b] w fun e w'=>e = .returned (.int .u64 (2 ^ b.toNat - 1)) /\ w' = w:=by
 go_enter Tryz.func44,Tryz.ntmps44
 go_wp2
 go_ret
 exact ⟨ret_int (most_eq _ (by omega)),rfl⟩
set_option maxHeartbeats 400000 in
theorem put_any (n a b : Int) (w : World) (hn0 : -9223372036854775808 <= n) (hn1 : n <= 9223372036854775807) (a0 : 0 <= a) (b0 : 0 <= b) (b1 : b < 64) (hab : a + b <= 64) :
 Calls Tryz.prog 41 #[.int .i64 n,.int .u64 a,.int .u64 b] w fun e w'=>e = .returned (.int .u64 (cut n b.toNat * 2 ^ a.toNat)) /\ w' = w:=by
 by_cases h : n < 0
 · go_enter Tryz.func41,Tryz.ntmps41
   go_wp2
   go_ret
   exact ⟨ret_int (by rw [cut_neg _ _ h];simp),rfl⟩
 · go_enter Tryz.func41,Tryz.ntmps41
   go_wp2_with (go_at_call 44;refine (most_any _ _ (by omega) (by omega)).mono ?_;rintro e w' ⟨rfl,rfl⟩)
   · go_ret
     refine ⟨ret_int ?_,rfl⟩
     have e:=put_eq n a.toNat b.toNat (by omega)
     rw [cut_great n b.toNat (by omega) (by omega)] at e ⊢
     exact e
   · go_ret
     refine ⟨ret_int ?_,rfl⟩
     have e:=put_eq n a.toNat b.toNat (by omega)
     rw [cut_id n b.toNat (by omega) (by omega)] at e ⊢
     exact e
set_option maxHeartbeats 400000 in
theorem get_any (x a b : Int) (w : World) (x0 : 0 <= x) (x1 : x <= 18446744073709551615) (a0 : 0 <= a) (a1 : a < 64) (b0 : 0 <= b) (b1 : b < 64) :
 Calls Tryz.prog 96 #[.int .u64 x,.int .u64 a,.int .u64 b] w fun e w'=>e = .returned (.int .i64 (x / 2 ^ a.toNat % 2 ^ b.toNat)) /\ w' = w:=by
 go_enter Tryz.func96,Tryz.ntmps96
 go_wp2_with (go_at_call 44;refine (most_any _ _ (by omega) (by omega)).mono ?_;rintro e w' ⟨rfl,rfl⟩)
 go_ret
 exact ⟨ret_int (get_eq x a.toNat b.toNat x0 (by omega) (by omega)),rfl⟩
end Go.Proofs.YtlolfmoolgenpaaGreat

namespace Go.Proofs.YtlolfmoolgenpaaGreat
open Go.RowKit
set_option maxHeartbeats 400000 in
theorem putHandle_any (a b : Int) (w : World) (ha : Fit a) (hb : Fit b) :
 Calls Tryz.prog 90 #[.agg #[.int .i64 a,.int .i64 b]] w fun e w'=>e = .returned (.int .u64 (packH a b)) /\ Below w.heap.size w w':=by
 go_enter Tryz.func90,Tryz.ntmps90
 go_wp2
 go_quiet ((go_at_call 41;exact Calls.quiet_of_same (put_any _ _ _ _ (by first | exact ha.1 | exact hb.1) (by first | exact ha.2 | exact hb.2) (by decide) (by decide) (by decide) (by decide))))
 go_wp2
 go_ret
 exact ⟨ret_int (orH _ _),below_drewN ((Below.refl _ _).alloc (Nat.le_refl _) _) _⟩
set_option maxHeartbeats 400000 in
theorem putSlot_any (a b c d : Int) (w : World) (ha : Fit a) (hb : Fit b) (hc : Fit c) (hd : Fit d) :
 Calls Tryz.prog 33 #[.agg #[.int .i64 a,.int .i64 b,.int .i64 c,.int .i64 d]] w fun e w'=>e = .returned (.int .u64 (packS a b c d)) /\ Below w.heap.size w w':=by
 go_enter Tryz.func33,Tryz.ntmps33
 go_wp2
 go_quiet ((go_at_call 41;exact Calls.quiet_of_same (put_any _ _ _ _ (by first | exact ha.1 | exact hb.1 | exact hc.1 | exact hd.1) (by first | exact ha.2 | exact hb.2 | exact hc.2 | exact hd.2) (by decide) (by decide) (by decide) (by decide))))
 go_wp2
 go_ret
 exact ⟨ret_int (orS _ _ _ _),below_drewN ((Below.refl _ _).alloc (Nat.le_refl _) _) _⟩
set_option maxHeartbeats 400000 in
theorem putChunk_any (a b c d : Int) (w : World) (ha : Fit a) (hb : Fit b) (hc : Fit c) (hd : Fit d) :
 Calls Tryz.prog 112 #[.agg #[.int .i64 a,.int .i64 b,.int .i64 c,.int .i64 d]] w fun e w'=>e = .returned (.int .u64 (packC a b c d)) /\ Below w.heap.size w w':=by
 go_enter Tryz.func112,Tryz.ntmps112
 go_wp2
 go_quiet ((go_at_call 41;exact Calls.quiet_of_same (put_any _ _ _ _ (by first | exact ha.1 | exact hb.1 | exact hc.1 | exact hd.1) (by first | exact ha.2 | exact hb.2 | exact hc.2 | exact hd.2) (by decide) (by decide) (by decide) (by decide))))
 go_wp2
 go_ret
 exact ⟨ret_int (orC _ _ _ _),below_drewN ((Below.refl _ _).alloc (Nat.le_refl _) _) _⟩
set_option maxHeartbeats 400000 in
theorem putHead_any (a b c d : Int) (o : Bool) (w : World) (ha : Fit a) (hb : Fit b) (hc : Fit c) (hd : Fit d) :
 Calls Tryz.prog 89 #[.agg #[.int .i64 a,.int .i64 b,.int .i64 c,.int .i64 d,.bool o]] w fun e w'=>e = .returned (.int .u64 (packOw a b c d o)) /\ Below w.heap.size w w':=by
 go_enter Tryz.func89,Tryz.ntmps89
 go_wp2
 go_quiet ((go_at_call 41;exact Calls.quiet_of_same (put_any _ _ _ _ (by first | exact ha.1 | exact hb.1 | exact hc.1 | exact hd.1) (by first | exact ha.2 | exact hb.2 | exact hc.2 | exact hd.2) (by decide) (by decide) (by decide) (by decide))))
 have e:=orO a b c d
 have h0:=packO_bd a b c d
 cases o
 · go_wp2
   go_ret
   exact ⟨ret_int (by simp [packOw,e]),below_drewN ((Below.refl _ _).alloc (Nat.le_refl _) _) _⟩
 · go_wp2
   go_ret
   exact ⟨ret_int (by first | exact orOw _ _ _ _ | (rw [e];exact orOw _ _ _ _)),below_drewN ((Below.refl _ _).alloc (Nat.le_refl _) _) _⟩
set_option maxHeartbeats 400000 in
theorem putCell_any (v : Int) (f : Bool) (d : Int) (w : World) (ha : Fit v) (hd : Fit d) :
 Calls Tryz.prog 140 #[.agg #[.int .i64 v,.bool f,.int .i64 d]] w fun e w'=>e = .returned (.int .u64 (packX v f d)) /\ Below w.heap.size w w':=by
 cases f
 · go_enter Tryz.func140,Tryz.ntmps140
   go_wp2_with (go_at_call 41;refine (put_any _ _ _ _ (by first | exact ha.1 | exact hd.1) (by first | exact ha.2 | exact hd.2) (by decide) (by decide) (by decide) (by decide)).mono ?_;rintro e w' ⟨rfl,rfl⟩)
   go_ret
   exact ⟨ret_int (by simp [packX]),(Below.refl _ _).alloc (Nat.le_refl _) _⟩
 · go_enter Tryz.func140,Tryz.ntmps140
   go_wp2_with (go_at_call 41;refine (put_any _ _ _ _ (by first | exact ha.1 | exact hd.1) (by first | exact ha.2 | exact hd.2) (by decide) (by decide) (by decide) (by decide)).mono ?_;rintro e w' ⟨rfl,rfl⟩)
   go_ret
   exact ⟨ret_int (orX _ _),(Below.refl _ _).alloc (Nat.le_refl _) _⟩
set_option maxHeartbeats 400000 in
theorem putTop_any (s c : Int) (w : World) (hs0 : -9223372036854775808 <= s) (hs1 : s <= 65535) (hc : Fit c) :
 Calls Tryz.prog 31 #[.int .i64 s,.int .i64 c] w fun e w'=>e = .returned (.int .u64 (packT (s + 1) c)) /\ w' = w:=by
 go_enter Tryz.func31,Tryz.ntmps31
 go_wp2_with (go_at_call 41;refine (put_any _ _ _ _ (by first | omega | exact hc.1) (by first | omega | exact hc.2) (by decide) (by decide) (by decide) (by decide)).mono ?_;rintro e w' ⟨rfl,rfl⟩)
 go_ret
 exact ⟨ret_int (orT _ _),rfl⟩
end Go.Proofs.YtlolfmoolgenpaaGreat
