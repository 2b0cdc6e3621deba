import Derived.WalkKit
import Derived.WalkSpells
import Derived.WalkLawsBesides
import Derived.Deep.OwnRows
import Derived.Deep.QuietTactic
import Derived.Deep.RegionWith
import Derived.BigQuiet
import Derived.RegionTactic
import Derived.BigRegion
import Derived.ChangeAlike
namespace Go.Proofs.YtpbghmeikcphnaaGreat
open Go.RowKit
section
structure Only (S:Nat->Prop) (w w':World):Prop where
 os:w'.os=w.os
 tape:w'.tape=w.tape
 output:w'.output=w.output
 size:w.heap.size<=w'.heap.size
 block:∀ k,k<w.heap.size->¬ S k->w'.heap[k]?=w.heap[k]?
namespace Only
variable {S:Nat->Prop} {w w' w'':World}
theorem refl (S:Nat->Prop) (w:World):Only S w w:=⟨rfl,rfl,rfl,Nat.le_refl _,fun _ _ _=>rfl⟩
theorem trans (h:Only S w w') (k:Only S w' w''):Only S w w'' :=
 ⟨k.os.trans h.os,k.tape.trans h.tape,k.output.trans h.output,Nat.le_trans h.size k.size,fun i hi hs=>(k.block i (Nat.lt_of_lt_of_le hi h.size) hs).trans (h.block i hi hs)⟩
theorem grow {T:Nat->Prop} (h:Only S w w') (k:Only T w' w'') (hT:∀ i,i<w.heap.size->T i->S i):Only S w w'' :=
 ⟨k.os.trans h.os,k.tape.trans h.tape,k.output.trans h.output,Nat.le_trans h.size k.size,fun i hi hs=>(k.block i (Nat.lt_of_lt_of_le hi h.size) (fun t=>hs (hT i hi t))).trans (h.block i hi hs)⟩
theorem mono {T:Nat->Prop} (h:Only S w w') (hT:∀ i,i<w.heap.size->S i->T i):Only T w w' :=
 ⟨h.os,h.tape,h.output,h.size,fun i hi hs=>h.block i hi (fun t=>hs (hT i hi t))⟩
theorem drew (h:Only S w w'):Only S w w'.drew:=⟨h.os,h.tape,h.output,h.size,h.block⟩
theorem alloc (h:Only S w w') (o:Obj):Only S w (w'.alloc o) :=
 h.trans ⟨rfl,rfl,rfl,by rw[Go.Deep.nblk_alloc];omega,fun k hk _=>Go.Deep.blk_alloc_lt _ _ _ hk⟩
theorem setCell (h:Only S w w') {a:Addr} (ha:a.block<w.heap.size->S a.block) (v:Value):Only S w (w'.setCell a v) :=
 ⟨h.os,h.tape,h.output,by rw[Go.Deep.nblk_setCell];exact h.size,fun k hk hs=>by
  rw[Go.Deep.blk_setCell_other _ _ _ _ (fun e=>hs (by rw[e] at hk ⊢;exact ha hk))];exact h.block k hk hs⟩
theorem below {B:Nat} (h:Only S w w') (hB:B<=w.heap.size) (hS:∀ k,k<B->¬ S k):Below B w w' :=
 ⟨h.os,h.tape,h.output,h.size,fun k hk=>h.block k (by omega) (hS k hk)⟩
theorem zh {B:Nat} (h:Below B w w'):Only (fun k=>B<=k) w w' :=
 ⟨h.os,h.tape,h.output,h.size,fun k _ hs=>h.block k (by omega)⟩
theorem cell (h:Only S w w') {p:Addr} (hp:p.block<w.heap.size) (hs:¬ S p.block):w'.cell? p=w.cell? p:=World.cell?_of_block (w:=w) (h.block _ hp hs)
theorem keep (h:Only S w w') {b o:Nat} {v:Value} (hs:¬ S b) (hc:w.cell? ⟨b,o,none⟩=some v):w'.cell? ⟨b,o,none⟩=some v :=
 (h.cell (p:=⟨b,o,none⟩) (World.block_lt_of_cell? w _ hc) hs).trans hc
end Only
def Fit (n:Int):Prop:=-9223372036854775808<=n/\n<=9223372036854775807
theorem below_drewN {B:Nat} {w w':World} (h:Below B w w') (n:Nat):Below B w (w'.drewN n):=⟨h.os,h.tape,h.output,h.size,h.block⟩
theorem grow {w a b:World} (h:Below w.heap.size w a) (k:Below a.heap.size a b):Below w.heap.size w b:=h.trans (k.mono h.size)
theorem Z4 {w a:World} (h:Below w.heap.size w a) (o:Obj):Below w.heap.size w (a.alloc o):=h.alloc h.size o
theorem keep' {w w':World} {b o:Nat} {v:Value} (k:Below w.heap.size w w') (h:w.cell? ⟨b,o,none⟩=some v):w'.cell? ⟨b,o,none⟩=some v :=
 (k.cell (p:=⟨b,o,none⟩) (World.block_lt_of_cell? w _ h)).trans h
theorem ZV (w:World) (b o:Nat) (v:Value) (c:Array Value) (t:TypeId) (h:w.heap[b]?=some (.cells c t (0,0))) :
 (w.setCell ⟨b,o,none⟩ v).heap[b]?=some (.cells (c.setIfInBounds o v) t (0,0)):=by
 simp[World.setCell,Array.getElem?_modify,h]
theorem ZX {w:World} {b o:Nat} {v:Value} {c:Array Value} {t:TypeId} (h:w.heap[b]?=some (.cells c t (0,0))) (hv:c[o]?=some v):w.cell? ⟨b,o,none⟩=some v:=by
 simp[World.cell?,h,hv]
theorem Y0 {w:World} {b:Nat} {c:Array Value} {t:TypeId} (h:w.heap[b]?=some (.cells c t (0,0))) (o:Nat):w.frozen? ⟨b,o,none⟩=false:=by
 simp[World.frozen?,h]
theorem X8 {w:World} {b:Nat} {x:Obj} (h:w.heap[b]?=some x):b<w.heap.size:=(Array.getElem?_eq_some_iff.1 h).1
def upd {α:Type} (f:Nat->α) (a:Nat) (v:α):Nat->α:=fun i=>if i=a then v else f i
theorem upd_same {α:Type} (f:Nat->α) (a:Nat) (v:α):upd f a v a=v:=by simp[upd]
theorem Z9 {α:Type} (f:Nat->α) (a i:Nat) (v:α) (h:i≠a):upd f a v i=f i:=by simp[upd,h]
theorem Yu {α:Type} (f:Nat->α) (a:Nat):upd f a (f a)=f:=by
 funext i;unfold upd;split <;> simp_all
end
section
def Linked (lk H:Nat->Int):List Nat->Prop
 | []=>True
 | [p]=>lk p % 4294967296=0
 | p :: c :: L=>lk p % 4294967296=H c/\Linked lk H (c :: L)
theorem Linked.tail {lk H:Nat->Int} {p:Nat} {L:List Nat} (h:Linked lk H (p :: L)):Linked lk H L:=by
 cases L with
 | nil=>trivial
 | cons c L=>exact h.2
theorem Linked.mid {lk H:Nat->Int} {A L:List Nat} (h:Linked lk H (A ++ L)):Linked lk H L:=by
 induction A with
 | nil=>exact h
 | cons a A ih=>exact ih (Linked.tail h)
theorem Linked.same {lk lk' H:Nat->Int} {L:List Nat} (e:∀ a,a∈L->lk' a=lk a) (h:Linked lk H L):Linked lk' H L:=by
 induction L with
 | nil=>trivial
 | cons p L ih =>
  cases L with
  | nil=>show lk' p % _=0;rw[e p (by simp)];exact h
  | cons c L=>exact⟨by rw[e p (by simp)];exact h.1,ih (fun a ha=>e a (List.mem_cons_of_mem _ ha)) h.2⟩
theorem Linked.swap {lk lk' H:Nat->Int} {p:Nat} {A B B':List Nat} (e:∀ a,a∈A->lk' a=lk a) (h:Linked lk H (A ++ p :: B)) (hB:Linked lk' H (p :: B')):Linked lk' H (A ++ p :: B'):=by
 induction A with
 | nil=>exact hB
 | cons a A ih =>
  have ih':=ih (fun b hb=>e b (List.mem_cons_of_mem _ hb)) (Linked.tail h)
  cases A with
  | nil=>exact⟨by rw[e a (by simp)];exact h.1,ih'⟩
  | cons b A=>exact⟨by rw[e a (by simp)];exact h.1,ih'⟩
def Q8 (ky lk:Nat->Int) (F:List Nat) (k:Int):Prop:=∃ c,c∈F/\ky c=k/\lk c<4294967296
structure VA (ZJ:Nat->Bool) (ky lk H:Nat->Int) (hd:Nat) (F:List Nat):Prop where
 nd:F.Nodup
 hf:∃ C,F=hd :: C
 XI:Linked lk H F
 pb:∀ j,j∈F->ZJ j=true
 out:∀ j,ZJ j=true->j∉F->4294967296<=lk j
 hg:lk hd<4294967296
 so:F.Pairwise (fun a b=>ky a<ky b)
 nx:∀ j,ZJ j=true->lk j % 4294967296=0\/∃ i,ZJ i=true/\lk j % 4294967296=H i/\i≠hd
 vl:∀ j,ZJ j=true->0<=lk j/\lk j<8589934592
 inj:∀ i j,ZJ i=true->ZJ j=true->H i=H j->i=j
 h0:∀ j,ZJ j=true->0<H j/\H j<4294967296
section
variable {ZJ:Nat->Bool} {ky lk H:Nat->Int} {hd p c:Nat} {F:List Nat}
theorem VA.mem (S:VA ZJ ky lk H hd F) (hp:ZJ p=true) (hl:lk p<4294967296):p∈F:=by
 by_cases h:p∈F
 . exact h
 . have:=S.out p hp h;omega
theorem VA.at (S:VA ZJ ky lk H hd F) (hp:ZJ p=true) (hl:lk p<4294967296):∃ A B,F=A ++ p :: B/\(lk p=0->B=[])/\∀ c,ZJ c=true->lk p=H c->∃ B',B=c :: B':=by
 obtain⟨A,B,e⟩:=List.append_of_mem (S.mem hp hl)
 have hv:=S.vl p hp
 have hm:lk p % 4294967296=lk p:=by omega
 have L:=S.XI
 rw[e] at L
 have L:=Linked.mid L
 refine⟨A,B,e,fun h0=>?_,fun c hc h1=>?_⟩
 . cases B with
   | nil=>rfl
   | cons b B =>
    have hb:=S.h0 b (S.pb b (by rw[e];simp))
    have:=L.1
    omega
 . cases B with
   | nil =>
    have hb:=S.h0 c hc
    have:lk p % 4294967296=0:=L
    omega
   | cons b B =>
    have h2:=L.1
    rw[hm,h1] at h2
    exact⟨B,by rw[S.inj c b hc (S.pb b (by rw[e];simp)) h2]⟩
theorem Dz {A B:List Nat} (h:(A ++ p :: B).Pairwise (fun a b=>ky a<ky b)):(∀ a,a∈A->ky a<ky p)/\∀ b,b∈B->ky p<ky b:=by
 obtain⟨-,h2,h3⟩:=List.pairwise_append.1 h
 exact⟨fun a ha=>h3 a ha p (by simp),fun b hb=>(List.pairwise_cons.1 h2).1 b hb⟩
theorem VA.absent (S:VA ZJ ky lk H hd F) (hp:ZJ p=true) (hl:lk p<4294967296) {k:Int} (hk:ky p<k) (h:lk p=0\/∃ c,ZJ c=true/\lk p=H c/\k<ky c):¬ Q8 ky lk F k:=by
 obtain⟨A,B,e,h1,h2⟩:=S.at hp hl
 rintro⟨d,hd,e1,-⟩
 have so:=S.so
 rw[e] at hd so
 obtain⟨a1,a2⟩:=Dz so
 rcases List.mem_append.1 hd with hA | hB
 . have:=a1 d hA;omega
 . rcases List.mem_cons.1 hB with rfl | hB
   . omega
   . rcases h with h | ⟨c,hc,h,hck⟩
     . rw[h1 h] at hB;cases hB
     . obtain⟨B',rfl⟩:=h2 c hc h
       rcases List.mem_cons.1 hB with rfl | hB
       . omega
       . have:=(List.pairwise_cons.1 (List.pairwise_cons.1 (List.pairwise_append.1 so).2.1).2).1 d hB
         omega
theorem VA.present (S:VA ZJ ky lk H hd F) (hc:ZJ c=true) (hl:lk c<4294967296):Q8 ky lk F (ky c):=⟨c,S.mem hc hl,rfl,hl⟩
theorem VA.uniq (S:VA ZJ ky lk H hd F) {a b:Nat} (ha:a∈F) (hb:b∈F) (e:ky a=ky b):a=b:=by
 obtain⟨A,B,eF⟩:=List.append_of_mem ha
 have so:=S.so
 rw[eF] at hb so
 obtain⟨a1,a2⟩:=Dz so
 rcases List.mem_append.1 hb with h | h
 . have:=a1 b h;omega
 . rcases List.mem_cons.1 h with h | h
   . exact h.symm
   . have:=a2 b h;omega
theorem VA.mark (S:VA ZJ ky lk H hd F) (hc:ZJ c=true) (hne:c≠hd) (hl:lk c<4294967296):VA ZJ ky (upd lk c (lk c+4294967296)) H hd F/\∀ k,Q8 ky (upd lk c (lk c+4294967296)) F k↔Q8 ky lk F k/\k≠ky c:=by
 have hv:=S.vl c hc
 have hmod:∀ j,upd lk c (lk c+4294967296) j % 4294967296=lk j % 4294967296:=fun j=>by
  by_cases e:j=c
  . rw[e,upd_same];omega
  . rw[Z9 _ _ _ _ e]
 have lJ:=S.mem hc hl
 refine⟨⟨S.nd,S.hf,?_,S.pb,fun j hj yC=>?_,?_,S.so,fun j hj=>by rw[hmod];exact S.nx j hj,fun j hj=>?_,S.inj,S.h0⟩,fun k=>⟨?_,?_⟩⟩
 . have:=S.XI
   clear lJ
   generalize F=L at this
   induction L with
   | nil=>trivial
   | cons a L ih =>
    cases L with
    | nil=>show upd lk c _ a % _=0;rw[hmod];exact this
    | cons b L=>exact⟨by rw[hmod];exact this.1,ih this.2⟩
 . rw[Z9 _ _ _ _ (fun e=>yC (by rw[e];exact lJ))];exact S.out j hj yC
 . rw[Z9 _ _ _ _ (Ne.symm hne)];exact S.hg
 . by_cases e:j=c
   . rw[e,upd_same];omega
   . rw[Z9 _ _ _ _ e];exact S.vl j hj
 . rintro⟨d,h1,h2,h3⟩
   by_cases e:d=c
   . rw[e,upd_same] at h3;omega
   . rw[Z9 _ _ _ _ e] at h3
     exact⟨⟨d,h1,h2,h3⟩,fun ek=>e (S.uniq h1 lJ (by rw[h2,ek]))⟩
 . rintro⟨⟨d,h1,h2,h3⟩,hk⟩
   have e:d≠c:=fun e=>hk (by rw[<- h2,e])
   exact⟨d,h1,h2,by rw[Z9 _ _ _ _ e];exact h3⟩
theorem VA.past (S:VA ZJ ky lk H hd F) (hp:ZJ p=true) (hc:ZJ c=true) (hpl:lk p=H c) (hg:4294967296<=lk c):∃ A B,F=A ++ p :: c :: B/\VA ZJ ky (upd lk p (lk c - 4294967296)) H hd (A ++ p :: B)/\(∀ k,Q8 ky (upd lk p (lk c - 4294967296)) (A ++ p :: B) k↔Q8 ky lk F k)/\c∉A ++ p :: B/\(∀ j,j∈A ++ p :: B->j∈F)/\c∈F:=by
 have hcb:=S.h0 c hc
 have KX:=S.vl c hc
 obtain⟨A,B,e,-,h2⟩:=S.at hp (by omega)
 obtain⟨B,rfl⟩:=h2 c hc hpl
 have nd:=S.nd
 have so:=S.so
 have XI:=S.XI
 rw[e] at nd so XI
 obtain⟨nA,uD,wG⟩:=List.nodup_append.1 nd
 have uC:p∉c :: B:=(List.nodup_cons.1 uD).1
 have fA:c∉B:=(List.nodup_cons.1 (List.nodup_cons.1 uD).2).1
 have lI:B.Nodup:=(List.nodup_cons.1 (List.nodup_cons.1 uD).2).2
 have eY:p≠c:=fun h=>uC (by rw[h];simp)
 have lH:p∉A:=fun h=>wG p h p (by simp) rfl
 have eX:c∉A:=fun h=>wG c h c (by simp) rfl
 have ek:∀ j,j∈A ++ p :: B->j∈F:=fun j hj=>by
  rw[e]
  rcases List.mem_append.1 hj with h | h
  . exact List.mem_append.2 (Or.inl h)
  . rcases List.mem_cons.1 h with h | h
    . rw[h];simp
    . exact List.mem_append.2 (Or.inr (List.mem_cons_of_mem _ (List.mem_cons_of_mem _ h)))
 have lG:c∉A ++ p :: B:=fun h=>by
  rcases List.mem_append.1 h with h | h
  . exact eX h
  . rcases List.mem_cons.1 h with h | h
    . exact eY h.symm
    . exact fA h
 have other:∀ j,ZJ j=true->j∉A ++ p :: B->j=c\/j∉F:=fun j _ hj=>by
  by_cases ej:j=c
  . exact Or.inl ej
  . refine Or.inr (fun hF=>hj ?_)
    rw[e] at hF
    rcases List.mem_append.1 hF with h | h
    . exact List.mem_append.2 (Or.inl h)
    . rcases List.mem_cons.1 h with h | h
      . rw[h];simp
      . rcases List.mem_cons.1 h with h | h
        . exact absurd h ej
        . exact List.mem_append.2 (Or.inr (List.mem_cons_of_mem _ h))
 have lB:Linked (upd lk p (lk c - 4294967296)) H (p :: B):=by
  have L2:Linked lk H (c :: B):=Linked.tail (Linked.mid XI)
  have same:∀ a,a∈B->upd lk p (lk c - 4294967296) a=lk a:=fun a ha=>Z9 _ _ _ _ (fun h=>uC (by rw[<- h];exact List.mem_cons_of_mem _ ha))
  cases B with
  | nil =>
   show upd lk p _ p % _=0
   have:lk c % 4294967296=0:=L2
   rw[upd_same];omega
  | cons b B =>
   refine⟨?_,Linked.same same L2.2⟩
   have:=L2.1
   rw[upd_same];omega
 refine⟨A,B,e,⟨?_,?_,Linked.swap (fun a ha=>Z9 _ _ _ _ (fun h=>lH (h ▸ ha))) XI lB,fun j hj=>S.pb j (ek j hj),fun j hj yC=>?_,?_,?_,fun j hj=>?_,fun j hj=>?_,S.inj,S.h0⟩,fun k=>⟨?_,?_⟩,lG,ek,by rw[e];simp⟩
 . refine List.nodup_append.2 ⟨nA,List.nodup_cons.2 ⟨fun h=>uC (List.mem_cons_of_mem _ h),lI⟩,fun a ha b hb=>wG a ha b ?_⟩
   rcases List.mem_cons.1 hb with h | h
   . rw[h];simp
   . exact List.mem_cons_of_mem _ (List.mem_cons_of_mem _ h)
 . obtain⟨C,hC⟩:=S.hf
   rw[e] at hC
   cases A with
   | nil=>injection hC with h1 _;exact⟨B,by rw[h1];rfl⟩
   | cons a A=>injection hC with h1 _;exact⟨A ++ p :: B,by rw[h1];rfl⟩
 . have hjp:j≠p:=fun h=>yC (by rw[h];simp)
   rw[Z9 _ _ _ _ hjp]
   rcases other j hj yC with h | h
   . rw[h];exact hg
   . exact S.out j hj h
 . by_cases h:hd=p
   . rw[h,upd_same];omega
   . rw[Z9 _ _ _ _ h];exact S.hg
 . obtain⟨s1,s2,s3⟩:=List.pairwise_append.1 so
   obtain⟨s4,s5⟩:=List.pairwise_cons.1 s2
   refine List.pairwise_append.2 ⟨s1,List.pairwise_cons.2 ⟨fun b hb=>s4 b (List.mem_cons_of_mem _ hb),(List.pairwise_cons.1 s5).2⟩,fun a ha b hb=>s3 a ha b ?_⟩
   rcases List.mem_cons.1 hb with h | h
   . rw[h];simp
   . exact List.mem_cons_of_mem _ (List.mem_cons_of_mem _ h)
 . by_cases h:j=p
   . rw[h,upd_same]
     have:=S.nx c hc
     rw[show (lk c - 4294967296) % 4294967296=lk c % 4294967296 by omega]
     exact this
   . rw[Z9 _ _ _ _ h];exact S.nx j hj
 . by_cases h:j=p
   . rw[h,upd_same];omega
   . rw[Z9 _ _ _ _ h];exact S.vl j hj
 . rintro⟨d,h1,h2,h3⟩
   refine⟨d,ek d h1,h2,?_⟩
   by_cases h:d=p
   . rw[h];omega
   . rw[Z9 _ _ _ _ h] at h3;exact h3
 . rintro⟨d,h1,h2,h3⟩
   have hdc:d≠c:=fun h=>by rw[h] at h3;omega
   refine⟨d,?_,h2,?_⟩
   . by_cases h:d∈A ++ p :: B
     . exact h
     . rcases other d (S.pb d h1) h with h' | h'
       . exact absurd h' hdc
       . exact absurd h1 h'
   . by_cases h:d=p
     . rw[h,upd_same];omega
     . rw[Z9 _ _ _ _ h];exact h3
theorem VA.put (S:VA ZJ ky lk H hd F) {d:Nat} (hp:ZJ p=true) (hl:lk p<4294967296) (hd0:ZJ d=false) (hk:ky p<ky d) (h:lk p=0\/∃ c,ZJ c=true/\lk p=H c/\ky d<ky c) (hdl:lk d=lk p) (hH:0<H d/\H d<4294967296) (hi:∀ j,ZJ j=true->H j≠H d):∃ A B,F=A ++ p :: B/\VA (upd ZJ d true) ky (upd lk p (H d)) H hd (A ++ p :: d :: B)/\(∀ k,Q8 ky (upd lk p (H d)) (A ++ p :: d :: B) k↔Q8 ky lk F k\/k=ky d)/\∀ j,j∈A ++ p :: d :: B↔j=d\/j∈F:=by
 obtain⟨A,B,e,h1,h2⟩:=S.at hp hl
 have hvp:=S.vl p hp
 have nd:=S.nd
 have so:=S.so
 have XI:=S.XI
 have dF:d∉F:=fun h=>by rw[S.pb d h] at hd0;cases hd0
 have wF:p≠d:=fun h=>by rw[h,hd0] at hp;cases hp
 have lF:hd≠d:=fun h=>by
  obtain⟨C,hC⟩:=S.hf
  exact dF (by rw[hC,h];simp)
 rw[e] at nd so XI dF
 obtain⟨nA,uD,wG⟩:=List.nodup_append.1 nd
 have uC:p∉B:=(List.nodup_cons.1 uD).1
 have lH:p∉A:=fun h=>wG p h p (by simp) rfl
 have eU:d∉A:=fun h=>dF (List.mem_append.2 (Or.inl h))
 have lI:d∉B:=fun h=>dF (List.mem_append.2 (Or.inr (List.mem_cons_of_mem _ h)))
 have lt:∀ b,b∈B->ky d<ky b:=fun b hb=>by
  rcases h with h | ⟨c,hc,h,hck⟩
  . rw[h1 h] at hb;cases hb
  . obtain⟨B',rfl⟩:=h2 c hc h
    rcases List.mem_cons.1 hb with rfl | hb
    . exact hck
    . have:=(List.pairwise_cons.1 (List.pairwise_cons.1 (List.pairwise_append.1 so).2.1).2).1 b hb
      omega
 have lB:Linked (upd lk p (H d)) H (p :: d :: B):=by
  have L2:Linked lk H (p :: B):=Linked.mid XI
  have same:∀ a,a∈B->upd lk p (H d) a=lk a:=fun a ha=>Z9 _ _ _ _ (fun h=>uC (h ▸ ha))
  refine⟨by rw[upd_same];omega,?_⟩
  have ed:upd lk p (H d) d=lk p:=(Z9 _ _ _ _ (Ne.symm wF)).trans hdl
  cases B with
  | nil=>show upd lk p _ d % _=0;rw[ed];exact L2
  | cons b B=>exact⟨by rw[ed];exact L2.1,Linked.same same L2.2⟩
 have JG:∀ j,j∈A ++ p :: d :: B↔j=d\/j∈F:=fun j=>by
  rw[e];simp only[List.mem_append,List.mem_cons]
  constructor
  . rintro(h | h | h | h)
    . exact Or.inr (Or.inl h)
    . exact Or.inr (Or.inr (Or.inl h))
    . exact Or.inl h
    . exact Or.inr (Or.inr (Or.inr h))
  . rintro(h | h | h | h)
    . exact Or.inr (Or.inr (Or.inl h))
    . exact Or.inl h
    . exact Or.inr (Or.inl h)
    . exact Or.inr (Or.inr (Or.inr h))
 have PQ:∀ j,j≠d->upd ZJ d true j=ZJ j:=fun j hj=>Z9 _ _ _ _ hj
 have Oi:∀ j,upd ZJ d true j=true->j=d\/ZJ j=true:=fun j hj=>by
  by_cases ej:j=d
  . exact Or.inl ej
  . rw[PQ j ej] at hj;exact Or.inr hj
 refine⟨A,B,e,⟨?_,?_,Linked.swap (fun a ha=>Z9 _ _ _ _ (fun h=>lH (h ▸ ha))) XI lB,fun j hj=>?_,fun j hj yC=>?_,?_,?_,fun j hj=>?_,fun j hj=>?_,fun i j hi' hj' eH=>?_,fun j hj=>?_⟩,fun k=>⟨?_,?_⟩,JG⟩
 . refine List.nodup_append.2 ⟨nA,List.nodup_cons.2 ⟨fun h=>?_,List.nodup_cons.2 ⟨lI,(List.nodup_cons.1 uD).2⟩⟩,fun a ha b hb=>?_⟩
   . rcases List.mem_cons.1 h with h | h
     . exact wF h
     . exact uC h
   . rcases List.mem_cons.1 hb with h | h
     . exact wG a ha b (by rw[h];simp)
     . rcases List.mem_cons.1 h with h | h
       . rw[h];exact fun e'=>eU (e' ▸ ha)
       . exact wG a ha b (List.mem_cons_of_mem _ h)
 . obtain⟨C,hC⟩:=S.hf
   rw[e] at hC
   cases A with
   | nil=>injection hC with h1 _;exact⟨d :: B,by rw[h1];rfl⟩
   | cons a A=>injection hC with h1 _;exact⟨A ++ p :: d :: B,by rw[h1];rfl⟩
 . rcases (JG j).1 hj with h | h
   . rw[h,upd_same]
   . rw[PQ j (fun e'=>by rw[e',e] at h;exact dF h)];exact S.pb j h
 . have hjd:j≠d:=fun h=>yC ((JG j).2 (Or.inl h))
   have qQ:j∉F:=fun h=>yC ((JG j).2 (Or.inr h))
   rw[PQ j hjd] at hj
   rw[Z9 _ _ _ _ (fun h=>qQ (by rw[h,e];simp))]
   exact S.out j hj qQ
 . by_cases h:hd=p
   . rw[h,upd_same];omega
   . rw[Z9 _ _ _ _ h];exact S.hg
 . obtain⟨s1,s2,s3⟩:=List.pairwise_append.1 so
   obtain⟨s4,s5⟩:=List.pairwise_cons.1 s2
   refine List.pairwise_append.2 ⟨s1,List.pairwise_cons.2 ⟨fun b hb=>?_,List.pairwise_cons.2 ⟨lt,s5⟩⟩,fun a ha b hb=>?_⟩
   . rcases List.mem_cons.1 hb with h | h
     . rw[h];exact hk
     . exact s4 b h
   . rcases List.mem_cons.1 hb with h | h
     . rw[h];exact s3 a ha p (by simp)
     . rcases List.mem_cons.1 h with h | h
       . rw[h];have:=s3 a ha p (by simp);omega
       . exact s3 a ha b (List.mem_cons_of_mem _ h)
 . by_cases h:j=p
   . rw[h,upd_same]
     exact Or.inr ⟨d,upd_same _ _ _,by omega,Ne.symm lF⟩
   . rw[Z9 _ _ _ _ h]
     have key:lk j % 4294967296=0\/∃ i,ZJ i=true/\lk j % 4294967296=H i/\i≠hd:=by
      rcases Oi j hj with e' | e'
      . rw[e',hdl];exact S.nx p hp
      . exact S.nx j e'
     rcases key with e' | ⟨i,a1,a2,a3⟩
     . exact Or.inl e'
     . exact Or.inr ⟨i,by rw[PQ i (fun e'=>by rw[e',hd0] at a1;cases a1)];exact a1,a2,a3⟩
 . by_cases h:j=p
   . rw[h,upd_same];omega
   . rw[Z9 _ _ _ _ h]
     rcases Oi j hj with e' | e'
     . rw[e',hdl];exact hvp
     . exact S.vl j e'
 . rcases Oi i hi' with e1 | e1 <;> rcases Oi j hj' with e2 | e2
   . rw[e1,e2]
   . rw[e1] at eH;exact absurd eH.symm (hi j e2)
   . rw[e2] at eH;exact absurd eH (hi i e1)
   . exact S.inj i j e1 e2 eH
 . rcases Oi j hj with e' | e'
   . rw[e'];exact hH
   . exact S.h0 j e'
 . rintro⟨x,h1,h2,h3⟩
   rcases (JG x).1 h1 with h | h
   . exact Or.inr (by rw[<- h2,h])
   . refine Or.inl ⟨x,h,h2,?_⟩
     by_cases hx:x=p
     . rw[hx];exact hl
     . rw[Z9 _ _ _ _ hx] at h3;exact h3
 . rintro(⟨x,h1,h2,h3⟩ | h)
   . refine⟨x,(JG x).2 (Or.inr h1),h2,?_⟩
     by_cases hx:x=p
     . rw[hx,upd_same];omega
     . rw[Z9 _ _ _ _ hx];exact h3
   . exact⟨d,(JG d).2 (Or.inl rfl),h.symm,by rw[Z9 _ _ _ _ (Ne.symm wF),hdl];exact hl⟩
end
end
end Go.Proofs.YtpbghmeikcphnaaGreat
