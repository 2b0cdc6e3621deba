import Derived.Test.YtlolfmoolgenpaaGreatActHut
namespace Go.Proofs.YtlolfmoolgenpaaGreat
open Go.RowKit
set_option maxRecDepth 20000
section
variable {w0 w : World} {L : Loc} {bE σ nx : Nat} {s : Mm} {q : Q} {gen : Nat -> Nat}
theorem aw_make {k : Nat} {X : Xa} {E H V : Int} {q' : Q} {nx' : Nat} {gen' : Nat -> Nat} {ls' : List Ox} {x : Nat} {F : List Nat} {ls : List Ox} (O : Out k X q nx gen ls E H V q' nx' gen' ls') (h : X.kd = 1) (hz : 0 <= classOf X.sz) (hF : q.F = x :: F) (hk : nx ≠ k) : ∃ o : Ox,E = 0 /\ H = packH x (gen x) /\ V = 0 /\ ls' = o :: ls /\ gen' = gen /\ o.x = x /\ o.g = gen x /\ X.sz = o.Z /\ o.own = X.own /\ q'.F = F /\ nx' <= nx + 1 /\ (∀ j,1 <= j -> j <= o.Z -> q'.dw (o.a + j) = 0) /\ Keeps q q' ls:=by
 cases O with
 | size h' hz'=>omega
 | empty h' hz' hF'=>rw [hF] at hF';cases hF'
 | full h' hz' x' F' hF' hk'=>exact absurd hk' hk
 | made h' hz' o _ _ hZ ho hF' hg h0 hkp hn =>
  rw [hF] at hF'
  obtain ⟨rfl,rfl⟩:=List.cons.inj hF'
  exact ⟨o,rfl,by rw [hg],rfl,rfl,rfl,rfl,hg,hZ,ho,rfl,hn,h0,hkp⟩
 | dead h'=>exact absurd h h'
 | gone h'=>omega
 | index h'=>omega
 | read h'=>omega
 | other h'=>omega
 | laid h'=>omega
theorem aw_reach {k : Nat} {X : Xa} {E H V : Int} {q' : Q} {nx' : Nat} {gen' : Nat -> Nat} {ls ls' : List Ox} {o : Ox} (O : Out k X q nx gen ls E H V q' nx' gen' ls') (hu : ∀ o' ∈ ls,X.nu = packH o'.x o'.g -> o' = o) (h : 3 <= X.kd) (ho : o ∈ ls) (hh : X.nu = packH o.x o.g) (hw : o.own = X.own) {j : Nat} (hj : X.ix = j) (hz : j < o.Z) :
 H = 0 /\ V = q.dw (o.a + 1 + j) /\ nx' = nx /\ gen' = gen /\ ls' = ls /\ ((X.kd = 3 /\ E = 0 /\ q' = q) \/ (X.kd = 5 /\ V ≠ X.ol /\ E = 8 /\ q' = q) \/ (X.kd ≠ 3 /\ (X.kd = 5 -> V = X.ol) /\ E = 0 /\ q' = { q with dw:=upd q.dw (o.a + 1 + j) X.vl })):=by
 cases O with
 | size h'=>omega
 | empty h'=>omega
 | full h'=>omega
 | made h'=>omega
 | dead h' hd=>exact absurd hw (hd o ho hh)
 | gone h'=>omega
 | index h' o' hm hh' ho' hi=>obtain rfl:=hu o' hm hh';exact absurd ⟨by omega,by omega⟩ hi
 | read h' o' hm hh' ho' j' hj' hi hr =>
  obtain rfl:=hu o' hm hh';obtain rfl : j' = j:=by omega
  exact ⟨rfl,rfl,rfl,rfl,rfl,Or.inl ⟨hr,rfl,rfl⟩⟩
 | other h' o' hm hh' ho' j' hj' hi hr hv =>
  obtain rfl:=hu o' hm hh';obtain rfl : j' = j:=by omega
  exact ⟨rfl,rfl,rfl,rfl,rfl,Or.inr (Or.inl ⟨hr,hv,rfl,rfl⟩)⟩
 | laid h' o' hm hh' ho' j' hj' hi hr hv =>
  obtain rfl:=hu o' hm hh';obtain rfl : j' = j:=by omega
  exact ⟨rfl,rfl,rfl,rfl,rfl,Or.inr (Or.inr ⟨hr,hv,rfl,rfl⟩)⟩
end
theorem packH_01 : packH ((0 : Nat) : Int) ((1 : Nat) : Int) = 65536:=packH_is 0 1 (by decide) (by decide)
def xwA : Xa:=⟨1,2,0,0,0,0,false⟩
def xwB : Xa:=⟨4,0,65536,0,7,0,false⟩
def xwC : Xa:=⟨3,0,65536,0,0,0,false⟩
theorem good15 : Good 1 4 2 20 100 600 3:=⟨by decide,by decide,by decide,by decide,by decide,by decide,by decide,by decide,by decide,by decide,by decide,by decide,by decide,by decide⟩
section
variable {w0 w : World} {L : Loc} {bE σ nx : Nat} {s : Mm} {q : Q} {o : Ox}
theorem aw1 (f : Hut w0 w L bE 1 4 2 20 s σ (Q.new 4) 0 (fun _=>1) []) (a : FarmApart w0 L bE 1 4 2 20 100) (hσ : σ <= 1000) :
 Calls Tryz.prog 12 #[.agg #[.int .i64 1,.int .i64 4,.int .i64 2,.int .i64 20,.int .i64 100,.int .i64 600,.int .i64 3,.pointer (some ⟨L.p,0,none⟩),.int .i64 0],.agg #[.int .i64 1,.int .i64 2,.int .u64 0,.int .i64 0,.int .i64 0,.int .i64 0,.bool false]] w fun e w'=>∃ (St : Int) (s' : Mm) (σ' : Nat) (o : Ox) (q' : Q) (nx' : Nat),e = .returned (.agg #[.int .i64 0,.int .u64 65536,.int .i64 0,.int .i64 St]) /\ σ' <= 1500 /\ o.x = 0 /\ o.g = 1 /\ o.Z = 2 /\ o.own = false /\ Hut w0 w' L bE 1 4 2 20 s' σ' q' nx' (fun _=>1) [o] /\ Only L.has w w':=by
 obtain ⟨E,H,V,q',nx',gen',ls',O,c⟩:=f.do a xwA (by decide) ⟨by decide,by decide⟩ ⟨by decide,by decide⟩ (fun _ h=>by cases h) (by omega)
 obtain ⟨o,rfl,rfl,rfl,rfl,rfl,hx,hg,hZ,ho,-⟩:=aw_make (x:=0) (F:=[1,2,3]) O rfl (by decide) rfl (by decide)
 refine (c w f).mono ?_
 rintro e w' ⟨St,s',σ',rfl,h1,h2,h3,h4,h',o'⟩
 rw [show packH ((0 : Nat) : Int) (((fun _=>1) 0 : Nat) : Int) = 65536 from packH_01]
 exact ⟨St,s',σ',o,q',nx',rfl,by omega,hx,hg,by have : (2 : Int) = o.Z:=hZ;omega,ho,h',o'⟩
theorem aw_g (hg : o.g = 1) : ∀ o' ∈ [o],o'.g < 100:=fun o' h=>by rw [List.mem_singleton.1 h,hg];decide
theorem aw_uniq {nu : Int} (o : Ox) : ∀ o' ∈ [o],nu = packH o'.x o'.g -> o' = o:=fun o' h _=>by simpa using h
theorem aw2 (f : Hut w0 w L bE 1 4 2 20 s σ q nx (fun _=>1) [o]) (a : FarmApart w0 L bE 1 4 2 20 100) (hσ : σ <= 1500) (hx : o.x = 0) (hg : o.g = 1) (hZ : o.Z = 2) (ho : o.own = false) :
 Calls Tryz.prog 12 #[.agg #[.int .i64 1,.int .i64 4,.int .i64 2,.int .i64 20,.int .i64 100,.int .i64 600,.int .i64 3,.pointer (some ⟨L.p,0,none⟩),.int .i64 0],.agg #[.int .i64 4,.int .i64 0,.int .u64 65536,.int .i64 0,.int .i64 7,.int .i64 0,.bool false]] w fun e w'=>∃ (V St : Int) (s' : Mm) (σ' : Nat) (q' : Q),e = .returned (.agg #[.int .i64 0,.int .u64 0,.int .i64 V,.int .i64 St]) /\ σ' <= 2000 /\ q'.dw (o.a + 1) = 7 /\ Hut w0 w' L bE 1 4 2 20 s' σ' q' nx (fun _=>1) [o] /\ Only L.has w w':=by
 obtain ⟨E,H,V,q',nx',gen',ls',O,c⟩:=f.do a xwB (by decide) ⟨by decide,by decide⟩ ⟨by decide,by decide⟩ (aw_g hg) (by omega)
 obtain ⟨rfl,rfl,rfl,rfl,rfl,hc⟩:=aw_reach (o:=o) (j:=0) O (aw_uniq o) (by decide) (by simp) (by rw [hx,hg];exact packH_01.symm) ho rfl (by omega)
 rcases hc with ⟨e,-⟩ | ⟨e,-⟩ | ⟨-,-,rfl,rfl⟩
 · exact absurd e (by decide)
 · exact absurd e (by decide)
 · refine (c w f).mono ?_
   rintro e w' ⟨St,s',σ',rfl,h1,h2,h3,h4,h',o'⟩
   exact ⟨_,St,s',σ',_,rfl,by omega,upd_same _ _ _,h',o'⟩
theorem aw3 (f : Hut w0 w L bE 1 4 2 20 s σ q nx (fun _=>1) [o]) (a : FarmApart w0 L bE 1 4 2 20 100) (hσ : σ <= 2000) (hx : o.x = 0) (hg : o.g = 1) (hZ : o.Z = 2) (ho : o.own = false) (hv : q.dw (o.a + 1) = 7) :
 Calls Tryz.prog 12 #[.agg #[.int .i64 1,.int .i64 4,.int .i64 2,.int .i64 20,.int .i64 100,.int .i64 600,.int .i64 3,.pointer (some ⟨L.p,0,none⟩),.int .i64 0],.agg #[.int .i64 3,.int .i64 0,.int .u64 65536,.int .i64 0,.int .i64 0,.int .i64 0,.bool false]] w fun e w'=>∃ (St : Int) (s' : Mm) (σ' : Nat),e = .returned (.agg #[.int .i64 0,.int .u64 0,.int .i64 7,.int .i64 St]) /\ Hut w0 w' L bE 1 4 2 20 s' σ' q nx (fun _=>1) [o] /\ Only L.has w w':=by
 obtain ⟨E,H,V,q',nx',gen',ls',O,c⟩:=f.do a xwC (by decide) ⟨by decide,by decide⟩ ⟨by decide,by decide⟩ (aw_g hg) (by omega)
 obtain ⟨rfl,rfl,rfl,rfl,rfl,hc⟩:=aw_reach (o:=o) (j:=0) O (aw_uniq o) (by decide) (by simp) (by rw [hx,hg];exact packH_01.symm) ho rfl (by omega)
 rcases hc with ⟨-,rfl,rfl⟩ | ⟨e,-⟩ | ⟨e,-⟩
 · refine (c w f).mono ?_
   rintro e w' ⟨St,s',σ',rfl,h1,h2,h3,h4,h',o'⟩
   rw [show q'.dw (o.a + 1 + 0) = 7 from hv]
   exact ⟨St,s',σ',rfl,h',o'⟩
 · exact absurd e (by decide)
 · exact absurd rfl e
end
set_option maxRecDepth 20000 in
set_option maxHeartbeats 1000000 in
theorem awake15_any (w : World) :
 Calls Tryz.prog 10 #[] w fun e w'=>e = .returned (.bool true) /\ Below w.heap.size w w':=by
 have ar:=fun w=>arena04_any good15 w
 have f1 : ∀ (a1 a2 a3 a4 : Value) (w : World),(Instr.field 40 (.agg #[a1,a2,a3,a4]) 1).run Tryz.prog w = .ok a2 w:=fun a1 a2 a3 a4 w=>by kernel_rfl
 go_enter Tryz.func10,Tryz.ntmps10
 go_wp2_with (first
  | (go_at_call 9;refine (ar _).mono ?_;rintro e w1 ⟨L,rfl,m1,b1,l1⟩;clear ar;obtain ⟨p1,pa⟩:=Hut.first good15 (by decide) m1 b1 l1;obtain ⟨y0,y1,y2,y3,y4,y5,y6,y7,y8⟩:=p1.v)
  | (go_at_call 12;refine (aw1 p1 pa (by omega)).mono ?_;rintro e w2 ⟨St2,s2,σ2,o,q2,nx2,rfl,hσ2,hx,hg,hZ,ho,p2,o2⟩;clear y0 y1 y2 y3 y4 y5 y6 y7 y8 p1;obtain ⟨z0,z1,z2,z3,z4,z5,z6,z7,z8⟩:=p2.v)
  | (go_at_call 12;refine (aw2 p2 pa hσ2 hx hg hZ ho).mono ?_;rintro e w3 ⟨V3,St3,s3,σ3,q3,rfl,hσ3,hq3,p3,o3⟩;clear z0 z1 z2 z3 z4 z5 z6 z7 z8 p2;have g3:=grow1 w3 (.cells #[.int .i64 0,.int .u64 0,.int .i64 V3,.int .i64 St3] 40);have p4:=p3.grown g3;obtain ⟨v0,v1,v2,v3,v4,v5,v6,v7,v8⟩:=p4.v;have d3:=At.new w3 40 [.int .i64 0,.int .u64 0,.int .i64 V3,.int .i64 St3])
  | (go_at_call 12;refine (aw3 p4 pa hσ3 hx hg hZ ho hq3).mono ?_;rintro e w5 ⟨St5,s5,σ5,rfl,p5,o5⟩;have hl : ¬ L.has w3.heap.size:=p3.ltL;have g5:=grow1 w5 (.cells #[.int .i64 0,.int .u64 0,.int .i64 7,.int .i64 St5] 40);have d5:=(d3.only o5 hl).grown g5;have p6:=p5.grown g5;have e5:=At.new w5 40 [.int .i64 0,.int .u64 0,.int .i64 7,.int .i64 St5]))
 generalize hW : w5.alloc (.cells #[.int .i64 0,.int .u64 0,.int .i64 7,.int .i64 St5] 40) = W at *
 have k0:=fun N : Later W=>(d5.grown N.below).at0 0 rfl
 have k1:=fun N : Later W=>(e5.grown N.below).at0 0 rfl
 have k2:=fun N : Later W=>(e5.grown N.below).at0 2 rfl
 have k3:=fun N : Later W=>(p6.v.grown N.below).c7
 have hm:=fun N : Later W=>p6.mm.below N.below
 have hp : s5.wd 6 = 0:=p6.vl.pn 0 (by omega)
 have hn : 6 < s5.n:=by have:=p6.vl.tw.len;omega
 have lp : ∀ w,Calls Tryz.prog 16 #[.int .i64 0] w fun e w'=>e = .returned (.int .i64 6) /\ w' = w:=fun w=>lpin_any 0 w (by omega) (by omega)
 haveI:=Later.exists W
 refine wp_region_later (by kernel_rfl) (by kernel_rfl) ?_
 repeat (go_big_quiet_step ((first
  | (go_at_call 16;exact Calls.later_same (lp _))
  | (go_at_call 15;exact Calls.later_same (peek_is (hm _) 6 hn 0 hp)))))
 refine wpQuiet_nil ?_
 rintro _ ⟨nq,rfl⟩
 go_wp2
 go_ret
 exact ⟨rfl,grow p6.b nq.below⟩
end Go.Proofs.YtlolfmoolgenpaaGreat
