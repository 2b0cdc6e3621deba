import Derived.Test.YtgehjolndmgffaaGreatWord
import Derived.Test.YtgehjolndmgffaaGreatLayEnv
import Derived.Test.YtgehjolndmgffaaGreatBox
import Derived.Test.YtgehjolndmgffaaGreatPhase
namespace Go.Proofs.YtgehjolndmgffaaGreat
open Go.RowKit
section
set_option maxHeartbeats 400000 in
theorem Oh (x:Int) (w:World) (x0:0<=x) (x1:x<=18446744073709551615) :
 Calls Tryz.prog 145 #[.int .u64 x] w fun e w'=>e=.returned (.agg #[iV (x % 8),iV (x / 8 % 1048576),iV (x / 8388608 % 65536),iV (x / 549755813888 % 4194304)])/\Below w.heap.size w w':=by
 go_enter Tryz.func145,Tryz.ntmps145
 go_wp2_with (go_at_call 159;refine(get_any _ _ _ _ x0 x1 (by decide) (by decide) (by decide) (by decide)).mono ?_;rintro e w' ⟨rfl,rfl⟩)
 exact bodyPost_ret (v:=.agg #[iV (x % 8),iV (x / 8 % 1048576),iV (x / 8388608 % 65536),iV (x / 549755813888 % 4194304)]) (by simp[results,Tryz.results145,go_sem]) rfl ⟨rfl,(Below.refl _ _).alloc (Nat.le_refl _) _⟩
set_option maxHeartbeats 400000 in
theorem Hm (x:Int) (w:World) (x0:0<=x) (x1:x<=18446744073709551615) :
 Calls Tryz.prog 174 #[.int .u64 x] w fun e w'=>e=.returned (.agg #[iV (x % 4),iV (x / 4 % 64),iV (x / 256 % 1048576),iV (x / 268435456 % 68719476736)])/\Below w.heap.size w w':=by
 go_enter Tryz.func174,Tryz.ntmps174
 go_wp2_with (go_at_call 159;refine(get_any _ _ _ _ x0 x1 (by decide) (by decide) (by decide) (by decide)).mono ?_;rintro e w' ⟨rfl,rfl⟩)
 exact bodyPost_ret (v:=.agg #[iV (x % 4),iV (x / 4 % 64),iV (x / 256 % 1048576),iV (x / 268435456 % 68719476736)]) (by simp[results,Tryz.results174,go_sem]) rfl ⟨rfl,(Below.refl _ _).alloc (Nat.le_refl _) _⟩
set_option maxHeartbeats 400000 in
theorem FO (x:Int) (w:World) (x0:0<=x) (x1:x<=18446744073709551615) :
 Calls Tryz.prog 191 #[.int .u64 x] w fun e w'=>e=.returned (.agg #[iV (x % 4),iV (x / 4 % 65536),iV (x / 262144 % 65536),iV (x / 17179869184 % 65536),.bool (decide (x / 1125899906842624 % 2=1))])/\Below w.heap.size w w':=by
 rw[<- Lt x 1125899906842624 50 (by decide) (by decide) x0 x1]
 go_enter Tryz.func191,Tryz.ntmps191
 go_wp2_with (go_at_call 159;refine(get_any _ _ _ _ x0 x1 (by decide) (by decide) (by decide) (by decide)).mono ?_;rintro e w' ⟨rfl,rfl⟩)
 exact bodyPost_ret (v:=.agg #[iV (x % 4),iV (x / 4 % 65536),iV (x / 262144 % 65536),iV (x / 17179869184 % 65536),.bool (bits .and .u64 x 1125899906842624 != 0)]) (by simp[results,Tryz.results191,go_sem]) rfl ⟨rfl,(Below.refl _ _).alloc (Nat.le_refl _) _⟩
set_option maxHeartbeats 400000 in
theorem FN (x:Int) (w:World) (x0:0<=x) (x1:x<=18446744073709551615) :
 Calls Tryz.prog 201 #[.int .u64 x] w fun e w'=>e=.returned (.agg #[iV (x % 1099511627776),.bool (decide (9223372036854775808<=x)),iV (if 9223372036854775808<=x then x / 1099511627776 % 4194304 else 0)])/\Below w.heap.size w w':=by
 have hb:=Lt x 9223372036854775808 63 (by decide) (by decide) x0 x1
 have H:Hid ((bits .and .u64 x 9223372036854775808 != 0)=decide (9223372036854775808<=x)):=by
  rw[hb];unfold Hid;congr 1;simp only[eq_iff_iff];omega
 clear hb
 by_cases h:9223372036854775808<=x
 . have h1:(bits .and .u64 x 9223372036854775808 != 0)=true:=by rw[H.out];simp[h]
   clear H
   rw[decide_eq_true h,if_pos h]
   clear h
   go_enter Tryz.func201,Tryz.ntmps201
   go_wp2_with (go_at_call 159;refine(get_any _ _ _ _ x0 x1 (by decide) (by decide) (by decide) (by decide)).mono ?_;rintro e w' ⟨rfl,rfl⟩)
   exact bodyPost_ret (v:=.agg #[iV (x % 1099511627776),.bool true,iV (x / 1099511627776 % 4194304)]) (by simp[results,Tryz.results201,go_sem]) rfl ⟨rfl,((Below.refl _ _).alloc (Nat.le_refl _) _).alloc (by simp) _⟩
 . have h1:(bits .and .u64 x 9223372036854775808 != 0)=false:=by rw[H.out];simpa using h
   clear H
   rw[decide_eq_false h,if_neg h]
   clear h
   go_enter Tryz.func201,Tryz.ntmps201
   go_wp2_with (go_at_call 159;refine(get_any _ _ _ _ x0 x1 (by decide) (by decide) (by decide) (by decide)).mono ?_;rintro e w' ⟨rfl,rfl⟩)
   exact bodyPost_ret (v:=.agg #[iV (x % 1099511627776),.bool false,iV 0]) (by simp[results,Tryz.results201,go_sem]) rfl ⟨rfl,((Below.refl _ _).alloc (Nat.le_refl _) _).alloc (by simp) _⟩
set_option maxHeartbeats 400000 in
theorem BI (x:Int) (w:World) (x0:0<=x) (x1:x<=18446744073709551615) :
 Calls Tryz.prog 156 #[.int .u64 x] w fun e w'=>e=.returned (.tuple #[iV (x % 131072 - 1),iV (x / 131072 % 68719476736)])/\w'=w:=by
 go_enter Tryz.func156,Tryz.ntmps156
 go_wp2_with (go_at_call 159;refine(get_any _ _ _ _ x0 x1 (by decide) (by decide) (by decide) (by decide)).mono ?_;rintro e w' ⟨rfl,rfl⟩)
 go_ret2
 exact⟨rfl,rfl⟩
set_option maxHeartbeats 400000 in
theorem LP (x:Int) (w:World) (x0:65536<=x) (x1:x<=4294967295) :
 Calls Tryz.prog 180 #[.int .u64 x] w fun e w'=>e=.returned (.tuple #[.agg #[iV (x % 65536),iV (x / 65536)],.bool true])/\Below w.heap.size w w':=by
 have h1:(x / 65536 % 65536 == 0)=false:=by simp;omega
 have h2:(x / 4294967296 != 0)=false:=by simp;omega
 have h3:x / 65536=x / 65536 % 65536:=by omega
 rw[h3]
 clear h3
 go_enter Tryz.func180,Tryz.ntmps180
 go_wp2_with (go_at_call 159;refine(get_any _ _ _ _ (by omega) (by omega) (by decide) (by decide) (by decide) (by decide)).mono ?_;rintro e w' ⟨rfl,rfl⟩)
 exact bodyPost_ret (v:=.tuple #[.agg #[iV (x % 65536),iV (x / 65536 % 65536)],.bool true]) (by simp[results,Tryz.results180,go_sem]) rfl ⟨rfl,(Below.refl _ _).alloc (Nat.le_refl _) _⟩
set_option maxHeartbeats 400000 in
theorem QC (x:Int) (w:World) (x0:0<=x) (x1:x<=18446744073709551615) (h:x<65536\/4294967296<=x) :
 Calls Tryz.prog 180 #[.int .u64 x] w fun e w'=>e=.returned (.tuple #[.agg #[iV 0,iV 0],.bool false])/\Below w.heap.size w w':=by
 by_cases hg:x / 65536 % 65536=0
 . have h1:(x / 65536 % 65536 == 0)=true:=by simp[hg]
   clear hg h
   go_enter Tryz.func180,Tryz.ntmps180
   go_wp2_with (go_at_call 159;refine(get_any _ _ _ _ (by omega) (by omega) (by decide) (by decide) (by decide) (by decide)).mono ?_;rintro e w' ⟨rfl,rfl⟩)
   exact bodyPost_ret (v:=.tuple #[.agg #[iV 0,iV 0],.bool false]) (by simp[results,Tryz.results180,go_sem]) rfl ⟨rfl,(Below.refl _ _).alloc (Nat.le_refl _) _⟩
 . have h1:(x / 65536 % 65536 == 0)=false:=by simpa using hg
   have h2:(x / 4294967296 != 0)=true:=by simp;omega
   clear hg h
   go_enter Tryz.func180,Tryz.ntmps180
   go_wp2_with (go_at_call 159;refine(get_any _ _ _ _ (by omega) (by omega) (by decide) (by decide) (by decide) (by decide)).mono ?_;rintro e w' ⟨rfl,rfl⟩)
   exact bodyPost_ret (v:=.tuple #[.agg #[iV 0,iV 0],.bool false]) (by simp[results,Tryz.results180,go_sem]) rfl ⟨rfl,(Below.refl _ _).alloc (Nat.le_refl _) _⟩
end
section
structure At (w:World) (b o:Nat) (T:TypeId) (c:Array Value) (l:List Value):Prop where
 obj:w.heap[b]?=some (.cells c T (0,0))
 is:∀ i v,l[i]?=some v->c[o+i]?=some v
def Same (o k:Nat) (c c':Array Value):Prop:=c'.size=c.size/\∀ i,¬ (o<=i/\i<o+k)->c'[i]?=c[i]?
theorem Same.refl {o k:Nat} {c:Array Value}:Same o k c c:=⟨rfl,fun _ _=>rfl⟩
theorem Same.set {o k:Nat} {c c':Array Value} (h:Same o k c c') {j:Nat} (hj:o<=j/\j<o+k) (v:Value):Same o k c (c'.setIfInBounds j v) :=
 ⟨by rw[Array.size_setIfInBounds];exact h.1,fun i hi=>by rw[Array.getElem?_setIfInBounds_ne (fun e=>hi (by rw[<- e];exact hj))];exact h.2 i hi⟩
theorem Same.trans {o k:Nat} {c c' c'':Array Value} (h:Same o k c c') (g:Same o k c' c''):Same o k c c'':=⟨g.1.trans h.1,fun i hi=>(g.2 i hi).trans (h.2 i hi)⟩
namespace At
variable {w w':World} {b o:Nat} {T:TypeId} {c:Array Value} {l:List Value}
theorem cell (h:At w b o T c l) (i:Nat) {v:Value} (hv:l[i]?=some v):w.cell? ⟨b,o+i,none⟩=some v:=ZW h.obj (h.is i v hv)
theorem cell0 (h:At w b o T c l) {v:Value} (hv:l[0]?=some v):w.cell? ⟨b,o,none⟩=some v:=h.cell 0 hv
theorem at0 (h:At w b 0 T c l) (i:Nat) {v:Value} (hv:l[i]?=some v):w.cell? ⟨b,i,none⟩=some v:=by
 have:=h.cell i hv
 rwa [Nat.zero_add] at this
theorem fz (h:At w b o T c l) (i:Nat):w.frozen? ⟨b,i,none⟩=false:=YV h.obj i
theorem lt (h:At w b o T c l):b<w.heap.size:=XP h.obj
theorem of_block (h:At w b o T c l) (e:w'.heap[b]?=w.heap[b]?):At w' b o T c l:=⟨e.trans h.obj,h.is⟩
theorem grown (h:At w b o T c l) (g:Below w.heap.size w w'):At w' b o T c l:=h.of_block (g.block _ h.lt)
theorem drew (h:At w b o T c l):At w.drew b o T c l:=h.of_block rfl
theorem only {S:Nat->Prop} (h:At w b o T c l) (g:Only S w w') (hs:¬ S b):At w' b o T c l:=h.of_block (g.block _ h.lt hs)
theorem other (h:At w b o T c l) {k:Nat} (hk:b≠k) (i:Nat) (v:Value):At (w.setCell ⟨k,i,none⟩ v) b o T c l:=h.of_block (Go.Deep.blk_setCell_other _ _ _ _ (by simpa using hk))
theorem Gt (h:At w b o T c l) {i:Nat} (hi:i<l.length):o+i<c.size:=by
 have:=h.is i _ (List.getElem?_eq_getElem hi)
 exact(Array.getElem?_eq_some_iff.1 this).1
theorem set (h:At w b o T c l) (i:Nat) (v:Value):At (w.setCell ⟨b,o+i,none⟩ v) b o T (c.setIfInBounds (o+i) v) (l.set i v) :=
 ⟨ZV _ _ _ _ _ _ h.obj,fun j u hj=>by
  rw[List.getElem?_set] at hj
  by_cases hij:i=j
  . subst hij
    rw[if_pos rfl] at hj
    by_cases hl:i<l.length
    . rw[if_pos hl] at hj
      rw[Array.getElem?_setIfInBounds_self_of_lt (h.Gt hl)];exact hj
    . rw[if_neg hl] at hj;cases hj
  . rw[if_neg hij] at hj
    rw[Array.getElem?_setIfInBounds_ne (by omega)];exact h.is j u hj⟩
theorem ZQ (h:At w b 0 T c l) (i:Nat) (v:Value):At (w.setCell ⟨b,i,none⟩ v) b 0 T (c.setIfInBounds i v) (l.set i v):=by
 have:=h.set i v
 rwa [Nat.zero_add] at this
theorem set0 (h:At w b o T c l) (v:Value):At (w.setCell ⟨b,o,none⟩ v) b o T (c.setIfInBounds o v) (l.set 0 v):=h.set 0 v
theorem new (w:World) (T:TypeId) (l:List Value):At (w.alloc (.cells l.toArray T)) w.heap.size 0 T l.toArray l :=
 ⟨Go.Deep.blk_alloc_new _ _,fun i v hv=>by simpa using hv⟩
end At
theorem Only.XH {L:Loc} {b:Nat} {w w':World} (h:Only L.has w w'):Only (L.and b) w w':=h.mono fun _ _ k=>Or.inl k
theorem Only.set {L:Loc} {b:Nat} {w w':World} (h:Only (L.and b) w w') (i:Nat) (v:Value):Only (L.and b) w (w'.setCell ⟨b,i,none⟩ v):=h.setCell (fun _=>Or.inr rfl) v
theorem Only.Z5 {S:Nat->Prop} {w w':World} (h:Below w.heap.size w w'):Only S w w':=(Only.O9 h).mono fun i hi k=>absurd k (by omega)
theorem Z8.ZY {L:Loc} {s:Mm} {b:Nat} {w:World} (h:Z8 w L s) (hb:¬ L.has b) (i:Nat) (v:Value):Z8 (w.setCell ⟨b,i,none⟩ v) L s:=h.other hb v
theorem Z4 {w w':World} {b:Nat} (h:Below w.heap.size w w') (hb:w.heap.size<=b) (i:Nat) (v:Value):Below w.heap.size w (w'.setCell ⟨b,i,none⟩ v) :=
 ⟨h.os,h.tape,h.output,by rw[Go.Deep.nblk_setCell];exact h.size,fun k hk=>by
  rw[Go.Deep.blk_setCell_other _ _ _ _ (fun e=>by simp only at e;omega)];exact h.block k hk⟩
theorem ZP.ZY {w:World} {B P:Nat} {c0 c1 c2 c3 c4 c5 c6 who:Int} (h:ZP w B c0 c1 c2 c3 c4 c5 c6 P who) {b:Nat} (hb:¬ B=b) (i:Nat) (v:Value):ZP (w.setCell ⟨b,i,none⟩ v) B c0 c1 c2 c3 c4 c5 c6 P who :=
 h.only (S:=fun k=>k=b) (Only.setCell (a:=⟨b,i,none⟩) (Only.refl (fun k=>k=b) _) (fun _=>rfl) _) hb
theorem ZP.Xb {w:World} {P:Nat} {c0 c1 c2 c3 c4 c5 c6 who:Int} {T:TypeId} (O:Obj):ZP ((w.alloc (.cells #[iV c0,iV c1,iV c2,iV c3,iV c4,iV c5,iV c6,pP P 0,iV who] T)).alloc O) w.heap.size c0 c1 c2 c3 c4 c5 c6 P who:=ZP.new.grown (Z7 (Below.refl _ _) _)
def UL (L:Loc) (b o:Nat) (T:TypeId) (c c':Array Value) (s s':Mm) (l l':List Value):Nat->World->Prop
 | 0,w=>Z8 w L s/\At w b o T c l
 | 1,w=>Z8 w L s'/\At w b o T c l
 | _,w=>Z8 w L s'/\At w b o T c' l'
theorem Y8 {L:Loc} {b o:Nat} {T:TypeId} {c c':Array Value} {s s':Mm} {l l':List Value} (x y:World) (p:Nat) (g:Grown x y) (k:UL L b o T c c' s s' l l' p x):UL L b o T c c' s s' l l' p y:=by
 match p,k with
 | 0,k=>exact⟨k.1.below g,k.2.grown g⟩
 | 1,k=>exact⟨k.1.below g,k.2.grown g⟩
 | p+2,k=>exact⟨k.1.below g,k.2.grown g⟩
structure ZO (L:Loc) (b f:Nat) (x y:World):Prop where
 only:Only (L.and b) x y
 cell:∀ j,j≠f->b<x.heap.size->y.cell? ⟨b,j,none⟩=x.cell? ⟨b,j,none⟩
namespace ZO
variable {L:Loc} {b f:Nat} {x y z:World}
theorem refl (x:World):ZO L b f x x:=⟨Only.refl _ _,fun _ _ _=>rfl⟩
theorem trans (x y z:World) (h:ZO L b f x y) (k:ZO L b f y z):ZO L b f x z :=
 ⟨h.only.trans k.only,fun j hj hb=>(k.cell j hj (Nat.lt_of_lt_of_le hb h.only.size)).trans (h.cell j hj hb)⟩
theorem Z5 (x y:World) (h:Grown x y):ZO L b f x y:=⟨Only.Z5 h,fun j _ hb=>h.cell (p:=⟨b,j,none⟩) hb⟩
theorem Yq (h:Only L.has x y) (hb:¬ L.has b):ZO L b f x y:=⟨h.XH,fun j _ hl=>h.cell (p:=⟨b,j,none⟩) hl hb⟩
theorem set (x:World) (v:Value):ZO L b f x (x.setCell ⟨b,f,none⟩ v):=⟨(Only.refl _ _).set _ _,fun j hj _=>World.cell?_setCell_other _ _ _ _ (fun e=>hj (by cases e;rfl))⟩
theorem keep (h:ZO L b f x y) {j:Nat} {v:Value} (hj:j≠f) (hc:x.cell? ⟨b,j,none⟩=some v):y.cell? ⟨b,j,none⟩=some v :=
 (h.cell j hj (World.block_lt_of_cell? x _ hc)).trans hc
end ZO
theorem yu {S:Nat→Prop}:(∀ x, Only S x x)∧(∀ x y z, Only S x y→Only S y z→Only S x z)∧∀ x y, Grown x y→Only S x y := ⟨Only.refl _, fun _ _ _ h k => h.trans k, fun _ _ h => Only.Z5 h⟩
theorem MQ {L:Loc} {b f:Nat}:(∀ x, ZO L b f x x)∧(∀ x y z, ZO L b f x y→ZO L b f y z→ZO L b f x z)∧∀ x y, Grown x y→ZO L b f x y := ⟨ZO.refl, ZO.trans, ZO.Z5⟩
section
variable {w w':World} {b P B:Nat} {c0 c1 c2 c3 c4 c5 c6 who:Int} {L:Loc} {S:Nat→Prop}
theorem ZP.dg (h:ZP w b c0 c1 c2 c3 c4 c5 c6 P who) (g:Grown w.drew w'):ZP w' b c0 c1 c2 c3 c4 c5 c6 P who := (h.grown ((Below.refl _ _).drew)).grown g
theorem ZP.dn (h:ZP w b c0 c1 c2 c3 c4 c5 c6 P who) (g:Only (L.and B) w.drew w') (h1:¬ L.has b) (h2:¬ b=B):ZP w' b c0 c1 c2 c3 c4 c5 c6 P who := (h.grown ((Below.refl _ _).drew)).only g (fun hh => hh.elim h1 h2)
theorem ZP.yy (h:ZP w' b c0 c1 c2 c3 c4 c5 c6 P who):w'.cell? ⟨b, 0, none⟩=some (iV c0)∧w'.cell? ⟨b, 1, none⟩=some (iV c1)∧w'.cell? ⟨b, 2, none⟩=some (iV c2)∧w'.cell? ⟨b, 3, none⟩=some (iV c3)∧w'.cell? ⟨b, 4, none⟩=some (iV c4)∧w'.cell? ⟨b, 5, none⟩=some (iV c5)∧w'.cell? ⟨b, 6, none⟩=some (iV c6)∧w'.cell? ⟨b, 7, none⟩=some (.pointer (some ⟨P, 0, none⟩))∧w'.cell? ⟨b, 8, none⟩=some (iV who) := ⟨h.c0, h.c1, h.c2, h.c3, h.c4, h.c5, h.c6, h.c7, h.c8⟩
theorem Only.og {w0:World} (o:Only S w0 w) (g:Grown w.drew w'):Only S w0 w' := o.drew.trans (Only.Z5 g)
end
end
end Go.Proofs.YtgehjolndmgffaaGreat
