import Derived.Test.YtpbghmeikcphnaaGreatBox
import Derived.Test.YtpbghmeikcphnaaGreatDropActs
import Derived.ArgAppend
import Derived.Test.YtpbghmeikcphnaaGreatLstSolo
import Derived.Test.YtpbghmeikcphnaaGreatLstTold
import Derived.Test.YtpbghmeikcphnaaGreatLstAln
import Derived.Test.YtpbghmeikcphnaaGreatLstMany
import Derived.Test.YtpbghmeikcphnaaGreatLstBegun
import Derived.Deep.MidRow
namespace Go.Proofs.YtpbghmeikcphnaaGreat
open Go.RowKit
section
section
variable {P:Program} {ops:Array Oper} {Q:Exit->Act->World->Prop} {R:World->World->Prop} {J:(Nat->Option Value)->Prop} {ks0:List (Want R)}
end
end
section
namespace Rw
variable {w w':World} {T T':TypeId} {b b' cap cap':Nat} {l l':List Value}
end Rw
theorem Grown.of {w w':World} (h:w.grownBy w' none):Grown w w':=⟨h.os,h.tape,h.output,h.size,fun k hk=>h.block k hk (by simp)⟩
theorem add_lit (b off j:Nat):(⟨b,off,none⟩:Addr).add j=⟨b,off+j,none⟩:=by unfold Addr.add;split <;> simp_all
end
section
theorem Nv {z:Nat} {l:List (List Value)} (h:∀ e∈l,e.length=z):l.flatten.length=z * l.length:=by
 induction l with
 | nil=>rfl
 | cons q t ih =>
  have:=h q (List.mem_cons_self ..)
  have:=ih fun e he=>h e (List.mem_cons_of_mem _ he)
  rw[List.flatten_cons,List.length_append,List.length_cons,Nat.mul_add];omega
theorem Bh {z i j:Nat} {l:List (List Value)} {e:List Value} (hl:∀ e∈l,e.length=z) (h:l[i]?=some e) (hj:j<z):l.flatten[i * z+j]?=e[j]?:=by
 induction l generalizing i with
 | nil=>simp at h
 | cons a t ih =>
  have ha:=hl a (List.mem_cons_self ..)
  rw[List.flatten_cons]
  cases i with
  | zero =>
   simp at h;subst h
   rw[Nat.zero_mul,Nat.zero_add,List.getElem?_append_left (by omega)]
  | succ i =>
   rw[Nat.succ_mul,List.getElem?_append_right (by omega),show i * z+z+j - a.length=i * z+j by omega]
   exact ih (fun e he=>hl e (List.mem_cons_of_mem _ he)) (by simpa using h)
structure Rz (w:World) (T:TypeId) (z b cap:Nat) (l:List (List Value)):Prop where
 ex:∃ c,w.heap[b]?=some (.cells c T (0,0))/\z * cap<=c.size/\∀ (i:Nat) (x:Value),l.flatten[i]?=some x->c[i]?=some x
 le:l.length<=cap
 ln:∀ e∈l,e.length=z
namespace Rz
variable {w w':World} {T:TypeId} {z b cap:Nat} {l:List (List Value)}
theorem lt (h:Rz w T z b cap l):b<w.heap.size:=by obtain⟨c,k,_⟩:=h.ex;exact X8 k
theorem cell0 (h:Rz w T z b cap l) {i:Nat} {x:Value} (hx:l.flatten[i]?=some x):w.cell? ⟨b,i,none⟩=some x:=by
 obtain⟨c,k,_,k2⟩:=h.ex;exact ZX k (k2 i x hx)
theorem cell (h:Rz w T z b cap l) {i j:Nat} {e:List Value} {x:Value} (he:l[i]?=some e) (hx:e[j]?=some x):w.cell? ⟨b,i * z+j,none⟩=some x:=by
 have hl:=h.ln e (List.mem_of_getElem? he)
 have hj:=(List.getElem?_eq_some_iff.1 hx).1
 exact h.cell0 ((Bh h.ln he (by omega)).trans hx)
theorem of_block (h:Rz w T z b cap l) (e:w'.heap[b]?=w.heap[b]?):Rz w' T z b cap l:=⟨h.ex.imp fun _ k=>⟨e.trans k.1,k.2⟩,h.le,h.ln⟩
theorem grown (h:Rz w T z b cap l) (g:Below w.heap.size w w'):Rz w' T z b cap l:=h.of_block (g.block _ h.lt)
theorem only {S:Nat->Prop} (h:Rz w T z b cap l) (o:Only S w w') (hs:¬ S b):Rz w' T z b cap l:=h.of_block (o.block _ h.lt hs)
theorem fresh (w:World) (T:TypeId) (z:Nat):Rz (w.alloc (.cells #[] T)) T z w.heap.size 0 []:=⟨⟨#[],Go.Deep.blk_alloc_new _ _,by simp,fun i x h=>by simp at h⟩,by simp,fun _ h=>by cases h⟩
end Rz
theorem VV {b:Nat} {T:TypeId} (news:List Value):∀ (w:World) (off:Nat) (c:Array Value),w.heap[b]?=some (.cells c T (0,0)) ->
 ∃ c',(w.setCells b off news).heap[b]?=some (.cells c' T (0,0))/\c'.size=c.size/\(∀ i,(i<off\/off+news.length<=i)->c'[i]?=c[i]?)/\(∀ (j:Nat) u,news[j]?=some u->off+j<c.size->c'[off+j]?=some u):=by
 induction news with
 | nil=>intro w off c h;exact⟨c,by simpa [World.setCells] using h,rfl,fun _ _=>rfl,fun j u hu=>by simp at hu⟩
 | cons x t ih =>
  intro w off c h
  have h1:=ZV w b off x c T h
  obtain⟨c',k,k1,k2,k3⟩:=ih _ (off+1) _ h1
  refine⟨c',by simpa [World.setCells] using k,by simpa using k1,fun i hi=>?_,fun j u hu hj=>?_⟩
  . have:i<off\/off+(t.length+1)<=i:=by simpa using hi
    rw[k2 i (by omega),Array.getElem?_setIfInBounds_ne (by omega)]
  . cases j with
    | zero =>
     simp at hu;subst hu
     rw[Nat.add_zero,k2 off (by omega),Array.getElem?_setIfInBounds_self_of_lt (by omega)]
    | succ j =>
     have:=k3 j u (by simpa using hu) (by simp;omega)
     rw[show off+(j+1)=off+1+j by omega];exact this
theorem WB {b:Nat} (news:List Value):∀ (w w0:World) (off:Nat),Only (fun k=>k=b) w0 w->Only (fun k=>k=b) w0 (w.setCells b off news):=by
 induction news with
 | nil=>intro w w0 off h;simpa [World.setCells] using h
 | cons x t ih =>
  intro w w0 off h
  have:=ih (w.setCell ⟨b,off,none⟩ x) w0 (off+1) (Only.setCell (a:=⟨b,off,none⟩) h (fun _=>rfl) x)
  simpa [World.setCells] using this
theorem Rz.app {w:World} {T S:TypeId} {z b cap bytes:Nat} {l:List (List Value)} {zv:Value} (hu:Tryz.prog.underlying S=some (.slice T)) (hi0:(Tryz.prog.info? T).map (fun i=>(i.zero,i.size,i.bytes))=some (some zv,z,bytes)) (hz:zv.cells.size=z) (hz0:0<z) (hby:bytes<=128)
 (h:Rz w T z b cap l) (g:Nat) (e:List Value) (he:e.length=z) (ho:∀ u∈e,u.oneCell'=true) (hg:∀ (j:Nat) u,e[j]?=some u->w.cell? ⟨g,j,none⟩=some u) (hl:l.length<=5000) (ty:TypeId) :
 ∃ b' cap' w',(Builtin.append_ #[S,S] ty #[.slice (some ⟨b,0,none⟩) l.length cap,.slice (some ⟨g,0,none⟩) 1 1]).run Tryz.prog w=.ok (.slice (some ⟨b',0,none⟩) (l.length+1) cap') w'/\Rz w' T z b' cap' (l ++ [e])/\Only (fun k=>k=b) w w'/\((b'=b/\cap'=cap/\Rz w' T z b cap l)\/(w.heap.size<=b'/\Grown w w')):=by
 obtain⟨i0,hi,hz0',hz1,hz2⟩:=info_parts hi0
 obtain⟨c,k,k1,k2⟩:=h.ex
 have hle:=h.le
 have hf:=Nv h.ln
 have hln:∀ e'∈l ++ [e],e'.length=z:=fun e' h'=>by
  rcases List.mem_append.1 h' with h' | h'
  . exact h.ln e' h'
  . rw[List.mem_singleton.1 h'];exact he
 have hfa:(l ++ [e]).flatten=l.flatten ++ e:=by simp
 have hnews:∀ (j:Nat) u,e[j]?=some u->w.cell? ((⟨g,0,none⟩:Addr).add j)=some u:=fun j u hu=>by rw[add_lit,Nat.zero_add];exact hg j u hu
 by_cases hr:l.length+1<=cap
 . have hzc:z * l.length+z<=z * cap:=by
    have:=Nat.mul_le_mul_left z hr
    rw[Nat.mul_add,Nat.mul_one] at this;exact this
   have hcell:∀ j,j<e.length->∃ v,w.cell? ⟨b,z * l.length+j,none⟩=some v:=fun j hj=>⟨_,ZX k (Array.getElem?_eq_getElem (show z * l.length+j<c.size by omega))⟩
   have hrun:=run_append_room_cells (P:=Tryz.prog) w S ty T i0 hu hi b 0 l.length cap ⟨g,0,none⟩ 1 1 e (by rw[hz1,he,Nat.one_mul]) hnews ho hr
    (fun j hj=>by
     obtain⟨v,hv⟩:=hcell j hj
     rw[hz1,Nat.zero_add,Nat.mul_comm l.length z,hv];rfl)
    (fun j hj=>Y0 k _)
   rw[hz1,Nat.zero_add,Nat.mul_comm l.length z] at hrun
   obtain⟨c',q,q1,q2,q3⟩:=VV e w (z * l.length) c k
   refine⟨b,cap,_,hrun,?_,WB _ _ _ _ (Only.refl _ _),Or.inl ⟨rfl,rfl,?_⟩⟩
   . refine⟨⟨c',q,by omega,fun i x hx=>?_⟩,by simpa using hr,hln⟩
     rw[hfa] at hx
     by_cases hil:i<l.flatten.length
     . rw[List.getElem?_append_left hil] at hx
       rw[q2 i (by omega)];exact k2 i x hx
     . rw[List.getElem?_append_right (by omega)] at hx
       have:=q3 _ x hx (by have:=(List.getElem?_eq_some_iff.1 hx).1;omega)
       rwa [show z * l.length+(i - l.flatten.length)=i by omega] at this
   . refine⟨⟨c',q,by omega,fun i x hx=>?_⟩,hle,h.ln⟩
     have:=(List.getElem?_eq_some_iff.1 hx).1
     rw[q2 i (by omega)];exact k2 i x hx
 . obtain⟨v',w',hrun,ho,hgr⟩:=run_append_arg_grows (P:=Tryz.prog) w S ty T i0 zv z bytes hu hi hz0' hz1 hz2 hz hz0 ⟨b,0,none⟩ l.length cap l.flatten (by rw[hf,Nat.mul_comm])
    (fun j u hu=>by rw[add_lit,Nat.zero_add];exact h.cell0 hu)
    ⟨g,0,none⟩ 1 1 e (by rw[he,Nat.one_mul]) hnews (by omega) (by unfold maxLen;omega) (Nat.le_trans (Nat.mul_le_mul_left _ hby) (by omega))
   rw[<- hfa] at ho
   rcases ho.2 with⟨_,h3⟩ | ⟨g',cap',cur,h',hb,hg',hcap,hmax,hsz,htake⟩
   . omega
   . subst h'
     refine⟨g',cap',w',hrun,⟨⟨cur,hg',by rw[hsz,Nat.mul_comm];exact Nat.le_refl _,fun i u hu=>?_⟩,by simpa using hcap,hln⟩,Only.ZZ (Grown.of hgr),Or.inr ⟨hb,Grown.of hgr⟩⟩
     have e1:=congrArg (fun q=>q[i]?) htake
     have hlt:i<(l.length+1) * z:=by
      have:=(List.getElem?_eq_some_iff.1 hu).1
      rw[Nv hln] at this
      simp only[List.length_append,List.length_cons,List.length_nil] at this
      rw[Nat.mul_comm];exact this
     rw[List.getElem?_take_of_lt hlt,hu] at e1
     simpa using e1
section
variable {X Y:World}
end
end
section
structure Dd where
 who:Int
 kd:Int
 k:Nat
 v:Int
 st:Nat
 bg:Nat
 en:Nat
def Dd.dn (d:Dd):List Value:=[iV d.who,iV d.kd,iV d.k,iV 0,.int .u64 0,iV d.v,iV d.st,iV d.bg,iV d.en]
def Dd.e (d:Dd):En:=⟨d.kd,d.k,d.v,d.st⟩
def Zt (D:List Dd) (i:Nat):Dd:=(D[i]?).getD ⟨0,0,0,0,0,0,0⟩
def YW (D:List Dd) (i:Nat):En:=(Zt D i).e
structure MJ (σ0 σ:Nat) (u:Hi) (D:List Dd):Prop where
 t:Told σ0 σ u D.length (YW D)
 k8:∀ i,i<D.length->(Zt D i).k<8
 bg:∀ i,i<D.length->(Zt D i).bg<=(Zt D i).st/\(Zt D i).st<=(Zt D i).en
 s0:σ0<=σ
 sm:σ<=100000
 ln:D.length<=30
section
variable {w w':World} {D:List Dd} {b cap i:Nat}
theorem wC (hi:i<D.length):D[i]?=some (Zt D i):=by
 unfold Zt
 rw[List.getElem?_eq_getElem hi];rfl
theorem wB (hi:i<D.length):(D.map Dd.dn)[i]?=some (Zt D i).dn:=by rw[List.getElem?_map,wC hi];rfl
theorem Rz.dd (R:Rz w 45 9 b cap (D.map Dd.dn)) (hi:i<D.length) {j:Nat} {x:Value} (hx:(Zt D i).dn[j]?=some x):w.cell? ⟨b,i * 9+j,none⟩=some x:=R.cell (wB hi) hx
def VC (D:List Dd) (i k:Nat):Nat:=tot (fun j=>if UC (fun j=>(YW D j).st) j i then 1 else 0) k
theorem L6 {k:Nat} (h:UC (fun j=>(YW D j).st) k i):VC D i (k+1)=VC D i k+1:=by
 show VC D i k+(if UC (fun j=>(YW D j).st) k i then 1 else 0)=_
 rw[if_pos h]
theorem Il {k:Nat} (h:¬ UC (fun j=>(YW D j).st) k i):VC D i (k+1)=VC D i k:=by
 show VC D i k+(if UC (fun j=>(YW D j).st) k i then 1 else 0)=_
 rw[if_neg h];rfl
theorem zM (k:Nat):VC D i k<=k:=XA (fun j _=>by split <;> decide)
def We (D:List Dd) (m i:Nat) (at_:Int):Prop:=(at_=-1/\∀ j,j<i->VC D j D.length≠m)\/∃ j:Nat,j<i/\VC D j D.length=m/\at_=j
theorem We.yes {m:Nat} (e:VC D i D.length=m):We D m (i+1) i:=Or.inr ⟨i,Nat.lt_succ_self _,e,rfl⟩
theorem We.no {m:Nat} {a:Int} (h:We D m i a) (e:VC D i D.length≠m):We D m (i+1) a:=by
 rcases h with⟨h1,h2⟩ | ⟨j,h1,h2,h3⟩
 . refine Or.inl ⟨h1,fun j hj=>?_⟩
   by_cases ej:j=i
   . rw[ej];exact e
   . exact h2 j (by omega)
 . exact Or.inr ⟨j,by omega,h2,h3⟩
theorem We.end_ {m:Nat} {a:Int} (h:We D m D.length a) (hm:m<D.length):∃ j:Nat,j<D.length/\TK (fun j=>(YW D j).st) D.length j=m/\a=j:=by
 rcases h with⟨-,h2⟩ | ⟨j,h1,h2,h3⟩
 . obtain⟨j,h1,h3⟩:=wz (f:=fun j=>(YW D j).st) hm
   exact absurd h3 (h2 j h1)
 . exact⟨j,h1,h2,h3⟩
def AtZ (D:List Dd) (u:Hi) (m:Nat) (z:Nat->Bool):Prop:=oL D.length u (YW D) m (fun x=>∃ i:Nat,i<8/\x=(i:Nat)/\z i=true)
theorem AtZ.first {σ0 σ:Nat} {u:Hi} (T:MJ σ0 σ u D):AtZ D u 0 (fun _=>false):=fun i hi e key hk=>by
 rw[<- T.t.first i hi e key hk]
 exact⟨(fun⟨_,_,_,h⟩=>by cases h),(fun h=>h.elim)⟩
theorem AtZ.next {σ0 σ m:Nat} {u:Hi} {z:Nat->Bool} (A:AtZ D u m z) (T:MJ σ0 σ u D) (hi:i<D.length) (e:TK (fun j=>(YW D j).st) D.length i=m) :
 (Zt D i).v=(if z (Zt D i).k=decide ((Zt D i).kd≠2) then 1 else 0)/\AtZ D u (m+1) (if (Zt D i).kd=1 then z else upd z (Zt D i).k (decide ((Zt D i).kd=2))):=by
 obtain⟨h1,h2⟩:=T.t.next A hi e
 have k8:=T.k8 i hi
 have ek:(∃ j:Nat,j<8/\(YW D i).k=(j:Nat)/\z j=true)↔z (Zt D i).k=true:=by
  constructor
  . rintro⟨j,_,a,b⟩
    have a:((Zt D i).k:Int)=(j:Nat):=a
    have:(Zt D i).k=j:=by omega
    rw[this];exact b
  . exact fun h=>⟨(Zt D i).k,k8,rfl,h⟩
 refine⟨?_,fun l hl el key hk=>?_⟩
 . rw[ek] at h1
   have h1:(Zt D i).v=1/\(z (Zt D i).k=true↔(Zt D i).kd≠2)\/(Zt D i).v=0/\¬ (z (Zt D i).k=true↔(Zt D i).kd≠2):=h1
   rcases h1 with⟨a,b⟩ | ⟨a,b⟩
   . rw[a,if_pos]
     by_cases c:(Zt D i).kd=2
     . rw[decide_eq_false (fun h=>h c)]
       cases hz:z (Zt D i).k with
       | false=>rfl
       | true=>exact absurd c (b.1 hz)
     . rw[decide_eq_true c];exact b.2 c
   . rw[a,if_neg]
     intro hz
     refine b ⟨fun e=>?_,fun e=>?_⟩
     . rw[e] at hz;exact of_decide_eq_true hz.symm
     . rw[hz];exact decide_eq_true e
 . refine Iff.trans ?_ (h2 l hl el key hk)
   show (∃ j:Nat,j<8/\key=(j:Nat)/\(if (Zt D i).kd=1 then z else upd z (Zt D i).k (decide ((Zt D i).kd=2))) j=true)↔(if (YW D i).kd≠1/\key=(YW D i).k then (YW D i).kd=2 else ∃ j:Nat,j<8/\key=(j:Nat)/\z j=true)
   by_cases c1:(Zt D i).kd=1
   . rw[if_pos c1,if_neg (fun h:(YW D i).kd≠1/\key=(YW D i).k=>h.1 c1)]
   . rw[if_neg c1]
     by_cases c2:key=(Zt D i).k
     . rw[if_pos (show (YW D i).kd≠1/\key=(YW D i).k from⟨c1,c2⟩)]
       constructor
       . rintro⟨j,_,a,b⟩
         have:j=(Zt D i).k:=by omega
         rw[this,upd_same] at b
         exact of_decide_eq_true b
       . exact fun h=>⟨(Zt D i).k,k8,c2,by rw[upd_same];exact decide_eq_true h⟩
     . rw[if_neg (fun h:(YW D i).kd≠1/\key=(YW D i).k=>c2 h.2)]
       constructor
       . rintro⟨j,a,b,d⟩
         rw[Z9 _ _ _ _ (by omega)] at d
         exact⟨j,a,b,d⟩
       . rintro⟨j,a,b,d⟩
         exact⟨j,a,b,by rw[Z9 _ _ _ _ (by omega)];exact d⟩
end
end
section
def Jn:Option (Cl × Option Rs)->Jb->Nat
 | none,_=>0
 | some (C,_),b=>Qj C b
def LH:Option (Cl × Option Rs)->Nat
 | none=>0
 | some _=>1
structure LJ (σ0 σ:Nat) (q:Q) (h:Gh) (jb:Nat->Jb) (u:Hi) (ts:Nat->Option (Cl × Option Rs)) (bg:Nat) (D:List Dd):Prop where
 room:Ig 3 q h jb
 ng:∀ K,K<3->(jb K).gives=false
 cnt:h.J+tot (fun K=>Jn (ts K) (jb K)) 3<=1+bg
 mz:∀ K C rs,ts K=some (C,rs)->∀ R a s nx,C.po=.make a s nx->rs=some R->R.E=0
 ev:JD σ0 σ u ts (D.map Dd.e)
 ok:∀ d,d∈D->Dy σ0 σ u d.e/\d.k<8/\d.bg<=d.st/\d.st<=d.en
 k8:∀ K C rs,ts K=some (C,rs)->∃ k:Nat,k<8/\C.k=k
 b0:∀ K C rs,ts K=some (C,rs)->σ0<=C.b
 hz:∀ key,0<=key->¬ u.S σ0 key
 ln:D.length+tot (fun K=>LH (ts K)) 3<=bg
 s0:σ0<=σ
section
variable {n σ0 σ K bg:Nat} {q q':Q} {h h':Gh} {jb:Nat->Jb} {hd:Nat} {F F':List Nat} {u u':Hi} {ts:Nat->Option (Cl × Option Rs)} {g p r:Int} {C C' C2:Cl} {R:Rs} {rs rs':Option Rs} {b':Jb} {S:Lr} {pb:Bool} {D:List Dd}
theorem U9 {f g:Nat->Nat} (hK:K<3) (h:∀ i,i≠K->g i=f i):tot g 3+f K=tot f 3+g K:=Y1 hK (fun i _ hi=>h i hi)
theorem LJ.oh (A:LJ σ0 σ q h jb u ts bg D) (hb:bg<=30):h.J<=31:=by
 have:=A.cnt
 omega
theorem LJ.go (A:LJ σ0 σ q h jb u ts bg D) (hb:bg<=30) (hn:36<=n) (hK:K<3) (X:Lc 4 n 12 40 q σ h jb hd F u ts) (X':Lc 4 n 12 40 q' (σ+1) h' (upd jb K b') hd F' u' (upd ts K (some (C',rs')))) (hts:ts K=some (C,rs)) (I:XV h hd C rs S) (G:SA 4 n 12 40 g h σ q u F K C rs (jb K) h' q' u' F' C' rs' b' pb):LJ σ0 (σ+1) q' h' (upd jb K b') u' (upd ts K (some (C',rs'))) bg D:=by
 have hJ:=A.oh hb
 have hN:(3=3/\h.J<=31)\/(3=4/\h.J<=12):=Or.inl ⟨rfl,hJ⟩
 obtain⟨R1,n1,m1⟩:=A.room.go hN hK X hts (A.ng K hK) I G
 have E1:=A.room.made hN (by omega) hK X X' hts (A.ng K hK) G (A.mz K C rs hts)
 obtain⟨hS,hev⟩:=G.hist
 have sm:=G.same
 have cl:∀ K' C1 r1,upd ts K (some (C',rs')) K'=some (C1,r1)->(K'=K/\C1=C'/\r1=rs')\/ts K'=some (C1,r1):=fun K' C1 r1 e=>by
  by_cases e':K'=K
  . rw[e',upd_same] at e;injection e with e;injection e with e1 e2;exact Or.inl ⟨e',e1.symm,e2.symm⟩
  . rw[Z9 _ _ _ _ e'] at e;exact Or.inr e
 refine⟨R1,fun K' hK'=>?_,?_,fun K' C1 r1 e=>?_,A.ev.go X X' hts G,fun d hd'=>?_,fun K' C1 r1 e=>?_,fun K' C1 r1 e=>?_,fun key hk=>?_,?_,Nat.le_succ_of_le A.s0⟩
 . by_cases e:K'=K
   . rw[e,upd_same];exact n1
   . rw[Z9 _ _ _ _ e];exact A.ng K' hK'
 . have t:=U9 (f:=fun K=>Jn (ts K) (jb K)) (g:=fun K'=>Jn (upd ts K (some (C',rs')) K') (upd jb K b' K')) hK (fun i hi=>by simp only[Z9 _ _ _ _ hi])
   simp only[upd_same,hts] at t
   have:Jn (some (C,rs)) (jb K)=Qj C (jb K):=rfl
   have:Jn (some (C',rs')) b'=Qj C' b':=rfl
   have:=A.cnt
   omega
 . rcases cl K' C1 r1 e with⟨-,rfl,rfl⟩ | e
   . exact E1
   . exact A.mz K' C1 r1 e
 . obtain⟨a1,a2,a3,a4⟩:=A.ok d hd'
   exact⟨a1.go hS hev,a2,a3,a4⟩
 . rcases cl K' C1 r1 e with⟨-,rfl,-⟩ | e
   . rw[sm.2.1];exact A.k8 K C rs hts
   . exact A.k8 K' C1 r1 e
 . rcases cl K' C1 r1 e with⟨-,rfl,-⟩ | e
   . rw[sm.2.2.2];exact A.b0 K C rs hts
   . exact A.b0 K' C1 r1 e
 . rw[hS σ0 A.s0];exact A.hz key hk
 . have t:=U9 (f:=fun K=>LH (ts K)) (g:=fun K'=>LH (upd ts K (some (C',rs')) K')) hK (fun i hi=>by simp only[Z9 _ _ _ _ hi])
   simp only[upd_same,hts] at t
   have:LH (some (C,rs))=1:=rfl
   have:LH (some (C',rs'))=1:=rfl
   have:=A.ln
   omega
theorem LJ.next (A:LJ σ0 σ q h jb u ts bg D) (hK:K<3) (X:Lc 4 n 12 40 q σ h jb hd F u ts) (hts:ts K=some (C,some R)) (I:XV h hd C (some R) S) (N:BQ h hd C R C2 C.po) (G:Qu h hd σ u K C C2 R):LJ σ0 σ q h (upd jb K (C2.XY h hd)) u (upd ts K (some (C2,none))) bg D:=by
 obtain⟨R1,n1,m1⟩:=A.room.next X hts I N
 have sm:=N.same
 have cl:∀ K' C1 r1,upd ts K (some (C2,none)) K'=some (C1,r1)->(K'=K/\C1=C2/\r1=none)\/ts K'=some (C1,r1):=fun K' C1 r1 e=>by
  by_cases e':K'=K
  . rw[e',upd_same] at e;injection e with e;injection e with e1 e2;exact Or.inl ⟨e',e1.symm,e2.symm⟩
  . rw[Z9 _ _ _ _ e'] at e;exact Or.inr e
 refine⟨R1,fun K' hK'=>?_,?_,fun K' C1 r1 e=>?_,?_,A.ok,fun K' C1 r1 e=>?_,fun K' C1 r1 e=>?_,A.hz,?_,A.s0⟩
 . by_cases e:K'=K
   . rw[e,upd_same];exact n1
   . rw[Z9 _ _ _ _ e];exact A.ng K' hK'
 . have t:=U9 (f:=fun K=>Jn (ts K) (jb K)) (g:=fun K'=>Jn (upd ts K (some (C2,none)) K') (upd jb K (C2.XY h hd) K')) hK (fun i hi=>by simp only[Z9 _ _ _ _ hi])
   simp only[upd_same,hts] at t
   have:Jn (some (C,some R)) (jb K)=Qj C (jb K):=rfl
   have:Jn (some (C2,none)) (C2.XY h hd)=Qj C2 (C2.XY h hd):=rfl
   have:=A.cnt
   omega
 . rcases cl K' C1 r1 e with⟨-,rfl,rfl⟩ | e
   . exact fun R a s nx _ e=>by cases e
   . exact A.mz K' C1 r1 e
 . exact A.ev.same (Nat.le_refl _) (fun _=>rfl) X.l.ev (by rw[hts];exact G.cl)
 . rcases cl K' C1 r1 e with⟨-,rfl,-⟩ | e
   . rw[sm.2.1];exact A.k8 K C _ hts
   . exact A.k8 K' C1 r1 e
 . rcases cl K' C1 r1 e with⟨-,rfl,-⟩ | e
   . rw[sm.2.2];exact A.b0 K C _ hts
   . exact A.b0 K' C1 r1 e
 . have t:=U9 (f:=fun K=>LH (ts K)) (g:=fun K'=>LH (upd ts K (some (C2,none)) K')) hK (fun i hi=>by simp only[Z9 _ _ _ _ hi])
   simp only[upd_same,hts] at t
   have:LH (some (C,some R))=1:=rfl
   have:LH (some (C2,none))=1:=rfl
   have:=A.ln
   omega
theorem LJ.done (A:LJ σ0 σ q h jb u ts bg D) (hK:K<3) (X:Lc 4 n 12 40 q σ h jb hd F u ts) (hts:ts K=some (C,some R)) (I:XV h hd C (some R) S) {E v:Int} {st:Nat} (e:Qs σ u C R E v st) (who:Int) {k:Nat} (hk:C.k=k):E=0/\LJ σ0 σ q h jb u (upd ts K none) bg (D ++ [⟨who,C.kd,k,v,st,C.b,σ⟩]):=by
 have E0:E=0:=by
  refine Classical.byContradiction fun hE=>?_
  obtain⟨⟨a,s,nx,hpo⟩,e1,-⟩:=e.er hE
  exact hE (e1.trans (A.mz K C _ hts R a s nx hpo rfl))
 have rt:=e.ok E0
 obtain⟨k1,hk8,hk1⟩:=A.k8 K C _ hts
 have hkk:k1=k:=by omega
 have hb:=A.b0 K C _ hts
 have T:=X.t K C _ hts
 obtain⟨r1,r2,r3⟩:=rt
 have cl:∀ K' C1 r1,upd ts K none K'=some (C1,r1)->ts K'=some (C1,r1):=fun K' C1 r1 e=>by
  by_cases e':K'=K
  . rw[e',upd_same] at e;cases e
  . rw[Z9 _ _ _ _ e'] at e;exact e
 refine⟨E0,A.room,A.ng,?_,fun K' C1 r1 e=>A.mz K' C1 r1 (cl K' C1 r1 e),?_,fun d hd'=>?_,fun K' C1 r1 e=>A.k8 K' C1 r1 (cl K' C1 r1 e),fun K' C1 r1 e=>A.b0 K' C1 r1 (cl K' C1 r1 e),A.hz,?_,A.s0⟩
 . have t:=U9 (f:=fun K=>Jn (ts K) (jb K)) (g:=fun K'=>Jn (upd ts K none K') (jb K')) hK (fun i hi=>by simp only[Z9 _ _ _ _ hi])
   simp only[upd_same,hts] at t
   have:Jn none (jb K)=0:=rfl
   have:=A.cnt
   omega
 . rw[List.map_append]
   refine A.ev.done (e:=Dd.e ⟨who,C.kd,k,v,st,C.b,σ⟩) r2 ?_
   rw[hts]
   by_cases c:v=1/\C.kd≠1
   . left
     exact⟨⟨c.2,c.1⟩,by show claim C (some R)=_;rw[e.cl,if_pos c];rfl⟩
   . right
     exact⟨fun hU=>c ⟨hU.2,hU.1⟩,by show claim C (some R)=_;rw[e.cl,if_neg c]⟩
 . rcases List.mem_append.1 hd' with hd' | hd'
   . exact A.ok d hd'
   . rw[List.mem_singleton.1 hd']
     refine⟨⟨by show (0:Int)<=(k:Int);omega,I.k13,by show σ0<st;omega,C.b,?_⟩,by show k<8;omega,by show C.b<=st;omega,r2⟩
     show Right σ u C.kd (k:Int) C.b v st
     rw[<- hk]
     exact⟨r1,r2,r3⟩
 . have t:=U9 (f:=fun K=>LH (ts K)) (g:=fun K'=>LH (upd ts K none K')) hK (fun i hi=>by simp only[Z9 _ _ _ _ hi])
   simp only[upd_same,hts] at t
   have:LH none=0:=rfl
   have:LH (some (C,some R))=1:=rfl
   have:=A.ln
   rw[List.length_append]
   show D.length+1+_<=bg
   omega
theorem LJ.begin (A:LJ σ0 σ q h jb u ts bg D) (hK:K<3) (X:Lc 4 n 12 40 q σ h jb hd F u ts) (hts:ts K=none) {kd:Int} {k:Nat} (hk:k<8):LJ σ0 σ q h (upd jb K (Cl.XY h hd ⟨kd,k,σ,none,.first⟩)) u (upd ts K (some (⟨kd,k,σ,none,.first⟩,none))) (bg+1) D:=by
 have hnil:=X.n K hts
 have cl:∀ K' C1 r1,upd ts K (some (⟨kd,k,σ,none,.first⟩,none)) K'=some (C1,r1)->(K'=K/\C1=⟨kd,k,σ,none,.first⟩/\r1=none)\/ts K'=some (C1,r1):=fun K' C1 r1 e=>by
  by_cases e':K'=K
  . rw[e',upd_same] at e;injection e with e;injection e with e1 e2;exact Or.inl ⟨e',e1.symm,e2.symm⟩
  . rw[Z9 _ _ _ _ e'] at e;exact Or.inr e
 refine⟨A.room.same rfl rfl (Vo (by rw[hnil];rfl)),fun K' hK'=>?_,?_,fun K' C1 r1 e=>?_,?_,A.ok,fun K' C1 r1 e=>?_,fun K' C1 r1 e=>?_,A.hz,?_,A.s0⟩
 . by_cases e:K'=K
   . rw[e,upd_same];rfl
   . rw[Z9 _ _ _ _ e];exact A.ng K' hK'
 . have t:=U9 (f:=fun K=>Jn (ts K) (jb K)) (g:=fun K'=>Jn (upd ts K (some (⟨kd,k,σ,none,.first⟩,none)) K') (upd jb K (Cl.XY h hd ⟨kd,k,σ,none,.first⟩) K')) hK (fun i hi=>by simp only[Z9 _ _ _ _ hi])
   simp only[upd_same,hts] at t
   have m1:=qx ⟨kd,k,σ,none,.first⟩ (Cl.XY h hd ⟨kd,k,σ,none,.first⟩)
   have:Jn (some (⟨kd,k,σ,none,.first⟩,none)) (Cl.XY h hd ⟨kd,k,σ,none,.first⟩)=Qj ⟨kd,k,σ,none,.first⟩ (Cl.XY h hd ⟨kd,k,σ,none,.first⟩):=rfl
   have:=A.cnt
   omega
 . rcases cl K' C1 r1 e with⟨-,rfl,rfl⟩ | e
   . exact fun R a s nx e'=>by cases e'
   . exact A.mz K' C1 r1 e
 . exact A.ev.same (Nat.le_refl _) (fun _=>rfl) X.l.ev (by rw[hts];rfl)
 . rcases cl K' C1 r1 e with⟨-,rfl,-⟩ | e
   . exact⟨k,hk,rfl⟩
   . exact A.k8 K' C1 r1 e
 . rcases cl K' C1 r1 e with⟨-,rfl,-⟩ | e
   . exact A.s0
   . exact A.b0 K' C1 r1 e
 . have t:=U9 (f:=fun K=>LH (ts K)) (g:=fun K'=>LH (upd ts K (some (⟨kd,k,σ,none,.first⟩,none)) K')) hK (fun i hi=>by simp only[Z9 _ _ _ _ hi])
   simp only[upd_same,hts] at t
   have:LH none=0:=rfl
   have:LH (some ((⟨kd,k,σ,none,.first⟩:Cl),(none:Option Rs)))=1:=rfl
   have:=A.ln
   omega
theorem LJ.told (A:LJ σ0 σ q h jb u ts bg D) (X:Lc 4 n 12 40 q σ h jb hd F u ts) (hn:∀ K,ts K=none) (hb:bg<=30) (hs:σ<=100000):MJ σ0 σ u D:=by
 have get:∀ i,i<D.length->∃ d,d∈D/\Zt D i=d:=fun i hi=>⟨D[i],List.getElem_mem hi,by unfold Zt;rw[List.getElem?_eq_getElem hi];rfl⟩
 have T:=A.ev.told hn X.l (fun e he=>by obtain⟨d,hd',rfl⟩:=List.mem_map.1 he;exact(A.ok d hd').1) A.hz (Dd.e ⟨0,0,0,0,0,0,0⟩)
 have ee:(fun i=>((D.map Dd.e)[i]?).getD (Dd.e ⟨0,0,0,0,0,0,0⟩))=YW D:=by
  funext i
  show ((D.map Dd.e)[i]?).getD _=((D[i]?).getD _).e
  rw[List.getElem?_map]
  cases D[i]? <;> rfl
 rw[ee,List.length_map] at T
 refine⟨T,fun i hi=>?_,fun i hi=>?_,A.s0,hs,?_⟩
 . obtain⟨d,h1,h2⟩:=get i hi
   rw[h2];exact(A.ok d h1).2.1
 . obtain⟨d,h1,h2⟩:=get i hi
   rw[h2];exact(A.ok d h1).2.2
 . have:=A.ln
   omega
end
end
section
structure Wy (w:World) (Nb:Nat) (nw:Nat->List Value):Prop where
 ex:∃ c,w.heap[Nb]?=some (.cells c 46 (0,0))/\c.size=27/\∀ a,a<3->∀ (j:Nat) u,(nw a)[j]?=some u->c[a * 9+j]?=some u
 ln:∀ a,a<3->(nw a).length=9
section
variable {w w':World} {Nb:Nat} {nw:Nat->List Value}
theorem Wy.lt (h:Wy w Nb nw):Nb<w.heap.size:=by obtain⟨c,k,_⟩:=h.ex;exact X8 k
theorem Wy.of_block (h:Wy w Nb nw) (e:w'.heap[Nb]?=w.heap[Nb]?):Wy w' Nb nw:=⟨h.ex.imp fun _ k=>⟨e.trans k.1,k.2⟩,h.ln⟩
theorem Wy.cell (h:Wy w Nb nw) {a j:Nat} (ha:a<3) {u:Value} (hu:(nw a)[j]?=some u):w.cell? ⟨Nb,a * 9+j,none⟩=some u:=by
 obtain⟨c,k,_,k2⟩:=h.ex;exact ZX k (k2 a ha j u hu)
theorem Wy.fz (h:Wy w Nb nw) (i:Nat):w.frozen? ⟨Nb,i,none⟩=false:=by obtain⟨c,k,_⟩:=h.ex;exact Y0 k i
theorem Wy.there (h:Wy w Nb nw) {a:Nat} (ha:a<3):w.there Nb (a * 9) 9:=fun j hj=>by
 have:=h.ln a ha
 exact⟨by rw[h.cell ha (List.getElem?_eq_getElem (show j<(nw a).length by omega))];rfl,h.fz _⟩
theorem Wy.set (h:Wy w Nb nw) {a:Nat} (ha:a<3) {e:List Value} (he:e.length=9):Wy (w.setCells Nb (a * 9) e) Nb (upd nw a e):=by
 obtain⟨c,k,k1,k2⟩:=h.ex
 obtain⟨c',q,q1,q2,q3⟩:=VV e w (a * 9) c k
 refine⟨⟨c',q,by omega,fun a' ha' j u hu=>?_⟩,fun a' ha'=>?_⟩
 . by_cases ea:a'=a
   . subst ea
     rw[upd_same] at hu
     have:=(List.getElem?_eq_some_iff.1 hu).1
     exact q3 j u hu (by omega)
   . rw[Z9 _ _ _ _ ea] at hu
     have:=(List.getElem?_eq_some_iff.1 hu).1
     have:=h.ln a' ha'
     rw[q2 _ (by omega)]
     exact k2 a' ha' j u hu
 . by_cases ea:a'=a
   . subst ea;rw[upd_same];exact he
   . rw[Z9 _ _ _ _ ea];exact h.ln a' ha'
end
def VQ (w:World) (E:Nat) (L:Loc) (who:Int):Prop:=w.heap[E]?=some (.cells #[iV 4,iV 40,iV 12,iV 40,iV 100,iV 600,iV 3,pP L.p 0,iV who] 27 (0,0))
section
variable {w w':World} {E:Nat} {L:Loc} {who:Int}
theorem VQ.fz (h:VQ w E L who) (o:Nat):w.frozen? ⟨E,o,none⟩=false:=Y0 h o
theorem VQ.grown (h:VQ w E L who) (g:Below w.heap.size w w'):VQ w' E L who:=(g.block _ (X8 h)).trans h
theorem VQ.only {S:Nat->Prop} (h:VQ w E L who) (g:Only S w w') (hs:¬ S E):VQ w' E L who:=(g.block _ (X8 h) hs).trans h
theorem VQ.set (h:VQ w E L who) (x:Int):VQ (w.setCell ⟨E,8,none⟩ (iV x)) E L x:=ZV _ _ _ _ _ _ h
end
def Pw (L:Loc) (E Wb Nb Tb b:Nat) (ts:Nat->Option (Cl × Option Rs)) (lb:Nat->Nat) (rn:Nat->Option Rn):Nat->Nat->Prop
 | 0,x=>L.has x
 | 1,x=>x=E
 | 2,x=>x=Wb
 | 3,x=>x=Nb
 | 4,x=>x=Tb
 | 5,x=>x=b
 | a+6,x=>ts a≠none/\Vp (lb a) (rn a) x
structure Pop (w0 w:World) (L:Loc) (E Wb Nb Tb b c:Nat) (who:Int) (s:Mm) (σ:Nat) (q:Q) (pn:Nat->Int) (h:Gh) (jb:Nat->Jb) (F:List Nat) (u:Hi) (ts:Nat->Option (Cl × Option Rs)) (lb:Nat->Nat) (rn:Nat->Option Rn) (pp:Nat->Value) (nw:Nat->List Value) (nx:Nat->Nat) (D:List Dd):Prop where
 mm:Z5 w L s
 vl:VD 4 40 12 40 s σ q pn
 lc:Lc 4 40 12 40 q σ h jb 0 F u ts
 v:VQ w E L who
 bw:Below w0.heap.size w0 w
 ar:w.rowIs Wb 43 3 pp
 nr:Wy w Nb nw
 tr:w.rowIs Tb 47 3 (fun a=>iV (nx a))
 cal:∀ a C rs,ts a=some (C,rs)->pp a=.pointer (some ⟨lb a,0,none⟩)/\∃ S ph,Cal 4 40 12 40 w L σ q pn h 0 a (jb a) C rs S (lb a) (rn a) ph
 r:Rz w 45 9 b c (D.map Dd.dn)
 pz:∀ K,ts K=none->pn K=0
 hH:h.H 0=65536
 n3:∀ K,3<=K->ts K=none
 lt:∀ i x,Pw L E Wb Nb Tb b ts lb rn i x->x<w.heap.size
 ap:∀ i j x,Pw L E Wb Nb Tb b ts lb rn i x->Pw L E Wb Nb Tb b ts lb rn j x->i=j
 ge:∀ i x,Pw L E Wb Nb Tb b ts lb rn i x->w0.heap.size<=x
theorem WZ {w a b:World} {S:Nat->Prop} (h:Below w.heap.size w a) (o:Only S a b) (hc:∀ k,S k->w.heap.size<=k):Below w.heap.size w b :=
 h.trans (o.below h.size (fun k hk hs=>by have:=hc k hs;omega))
theorem Cal.keep {t n k m σ:Nat} {w w':World} {L:Loc} {q:Q} {pn:Nat->Int} {h:Gh} {hd K:Nat} {bj:Jb} {C:Cl} {r:Option Rs} {S:Lr} {b:Nat} {a:Option Rn} {ph:Nat} {P:Nat->Prop} (c:Cal t n k m w L σ q pn h hd K bj C r S b a ph) (o:Only P w w') (hn:∀ x,Vp b a x->¬ P x):Cal t n k m w' L σ q pn h hd K bj C r S b a ph :=
 ⟨c.lr.only o (hn b (Or.inl rfl)),c.ok,c.is,c.bd,c.nb,c.pk,c.p4,c.no,fun R e=>by obtain⟨h1,h2⟩:=c.th R e;exact⟨h1.only o (fun x hx=>hn x (Or.inr ⟨R,e,hx⟩)),h2⟩⟩
theorem Cal.other {t n k m σ:Nat} {w w':World} {L:Loc} {q q':Q} {pn YO:Nat->Int} {h h':Gh} {hd K a:Nat} {jb:Nat->Jb} {b':Jb} {C:Cl} {r:Option Rs} {S:Lr} {b:Nat} {rn:Option Rn} {ph:Nat} {P:Nat->Prop} (c:Cal t n k m w L σ q pn h hd a (jb a) C r S b rn ph) (M:VF t n k m q σ h jb) (M':VF t n k m q' (σ+1) h' (upd jb K b')) (hne:a≠K) (hJ:h.J<=h'.J) (nd:∀ j,j<h.J->h'.nd j=h.nd j) (hp:YO a=pn a) (o:Only P w w') (hn:∀ x,Vp b rn x->¬ P x):Cal t n k m w' L (σ+1) q' YO h' hd a (jb a) C r S b rn ph:=by
 have ok:=M.jk a
 have ok':=M'.jk a
 rw[Z9 _ _ _ _ hne] at ok'
 refine⟨c.lr.only o (hn b (Or.inl rfl)),c.ok,c.is.on c.bd nd,c.bd.up hJ,c.nb,by rw[hp];exact c.pk,c.p4,fun e=>?_,fun R e=>?_⟩
 . obtain⟨e1,e2,e3⟩:=c.no e
   exact⟨e1,e2,e3.trans (wJ c.bd nd).symm⟩
 . obtain⟨th,sg,nB,dc⟩:=c.th R e
   exact⟨(th.only o (fun x hx=>hn x (Or.inr ⟨R,e,hx⟩))).on sg (Nat.le_succ _) ok',sg.on ok nd,nB,dc⟩
section
variable {w0 w w':World} {L:Loc} {E Wb Nb Tb b c σ K:Nat} {who:Int} {s:Mm} {q:Q} {pn:Nat->Int} {h:Gh} {jb:Nat->Jb} {F:List Nat} {u:Hi} {ts:Nat->Option (Cl × Option Rs)} {lb:Nat->Nat} {rn:Nat->Option Rn} {pp:Nat->Value} {nw:Nat->List Value} {nx:Nat->Nat} {D:List Dd}
theorem Pop.grown (P:Pop w0 w L E Wb Nb Tb b c who s σ q pn h jb F u ts lb rn pp nw nx D) (g:Below w.heap.size w w'):Pop w0 w' L E Wb Nb Tb b c who s σ q pn h jb F u ts lb rn pp nw nx D :=
 ⟨P.mm.below g,P.vl,P.lc,P.v.grown g,grow P.bw g,P.ar.of_block (g.block _ P.ar.lt),P.nr.of_block (g.block _ P.nr.lt),P.tr.of_block (g.block _ P.tr.lt),fun a C rs e=>by obtain⟨h1,S,ph,h2⟩:=P.cal a C rs e;exact⟨h1,S,ph,h2.keep (P:=fun _=>False) (Only.ZZ g) (fun _ _=>id)⟩,P.r.grown g,P.pz,P.hH,P.n3,fun i x e=>Nat.lt_of_lt_of_le (P.lt i x e) g.size,P.ap,P.ge⟩
theorem Pop.alt (P:Pop w0 w L E Wb Nb Tb b c who s σ q pn h jb F u ts lb rn pp nw nx D) {i0:Nat} (h1:1<=i0) (h5:i0<=5) (o:Only (Pw L E Wb Nb Tb b ts lb rn i0) w w') {who':Int} {zA:Nat->Value} {vz:Nat->List Value} {nx':Nat->Nat} {D':List Dd}
 (ev:if i0=1 then VQ w' E L who' else who'=who) (ea:if i0=2 then w'.rowIs Wb 43 3 zA/\(∀ a C rs,ts a=some (C,rs)->zA a=pp a) else zA=pp) (en:if i0=3 then Wy w' Nb vz else vz=nw) (et:if i0=4 then w'.rowIs Tb 47 3 (fun a=>iV (nx' a)) else nx'=nx) (er:if i0=5 then Rz w' 45 9 b c (D'.map Dd.dn) else D'=D) :
 Pop w0 w' L E Wb Nb Tb b c who' s σ q pn h jb F u ts lb rn zA vz nx' D':=by
 have no:∀ i x,i≠i0->Pw L E Wb Nb Tb b ts lb rn i x->¬ Pw L E Wb Nb Tb b ts lb rn i0 x:=fun i x hi hx hh=>hi (P.ap i i0 x hx hh)
 refine⟨P.mm.only o (fun x hx=>no 0 x (by omega) hx),P.vl,P.lc,?_,WZ P.bw o (fun x hx=>P.ge i0 x hx),?_,?_,?_,fun a C rs e=>?_,?_,P.pz,P.hH,P.n3,fun i x e=>Nat.lt_of_lt_of_le (P.lt i x e) o.size,P.ap,P.ge⟩
 . by_cases e:i0=1
   . rw[if_pos e] at ev;exact ev
   . rw[if_neg e] at ev;rw[ev];exact P.v.only o (no 1 _ (fun h=>e h.symm) rfl)
 . by_cases e:i0=2
   . rw[if_pos e] at ea;exact ea.1
   . rw[if_neg e] at ea;rw[ea];exact P.ar.of_block (o.block _ P.ar.lt (no 2 _ (fun h=>e h.symm) rfl))
 . by_cases e:i0=3
   . rw[if_pos e] at en;exact en
   . rw[if_neg e] at en;rw[en];exact P.nr.of_block (o.block _ P.nr.lt (no 3 _ (fun h=>e h.symm) rfl))
 . by_cases e:i0=4
   . rw[if_pos e] at et;exact et
   . rw[if_neg e] at et;rw[et];exact P.tr.of_block (o.block _ P.tr.lt (no 4 _ (fun h=>e h.symm) rfl))
 . obtain⟨k1,S,ph,k2⟩:=P.cal a C rs e
   refine⟨?_,S,ph,k2.keep o (fun x hx=>no (a+6) x (by omega) ⟨by rw[e];simp,hx⟩)⟩
   by_cases e2:i0=2
   . rw[if_pos e2] at ea;rw[ea.2 a C rs e];exact k1
   . rw[if_neg e2] at ea;rw[ea];exact k1
 . by_cases e:i0=5
   . rw[if_pos e] at er;exact er
   . rw[if_neg e] at er;rw[er];exact P.r.only o (no 5 _ (fun h=>e h.symm) rfl)
theorem Pop.begin (P:Pop w0 w L E Wb Nb Tb b c who s σ q pn h jb F u ts lb rn pp nw nx D) (hK:K<3) (hts:ts K=none) (hJ:h.J<=60000) {kd:Int} {k b0:Nat} (hk:kd=1\/kd=2\/kd=3) (k8:k<8) (g:Below w.heap.size w w') (hb:w.heap.size<=b0) (lr:ZF w' b0 (.pointer none) (yF kd k 65536)) :
 Pop w0 (w'.setCell ⟨Wb,K,none⟩ (pP b0 0)) L E Wb Nb Tb b c who s σ q pn h (upd jb K (Cl.XY h 0 ⟨kd,k,σ,none,.first⟩)) F u (upd ts K (some (⟨kd,k,σ,none,.first⟩,none))) (upd lb K b0) (upd rn K none) (upd pp K (pP b0 0)) nw nx D:=by
 have P1:=P.grown g
 have hG:Good 4 40 12 40 100 600 3:=Qw (by decide) (by decide)
 have o:Only (fun x=>x=Wb) w' (w'.setCell ⟨Wb,K,none⟩ (pP b0 0)):=(Only.refl (fun x=>x=Wb) w').setCell (a:=⟨Wb,K,none⟩) (fun _=>rfl) _
 have hW:Wb<w.heap.size:=P.lt 2 Wb rfl
 have no:∀ i x,i≠2->Pw L E Wb Nb Tb b ts lb rn i x->¬ x=Wb:=fun i x hi hx e=>hi (P.ap i 2 x hx e)
 have pt:∀ i x,Pw L E Wb Nb Tb b (upd ts K (some (⟨kd,k,σ,none,.first⟩,none))) (upd lb K b0) (upd rn K none) i x->Pw L E Wb Nb Tb b ts lb rn i x\/(i=K+6/\x=b0):=fun i x hp=>by
  match i,hp with
  | 0,hp=>exact Or.inl hp
  | 1,hp=>exact Or.inl hp
  | 2,hp=>exact Or.inl hp
  | 3,hp=>exact Or.inl hp
  | 4,hp=>exact Or.inl hp
  | 5,hp=>exact Or.inl hp
  | a+6,hp =>
   have hp:upd ts K (some (⟨kd,k,σ,none,.first⟩,none)) a≠none/\Vp (upd lb K b0 a) (upd rn K none a) x:=hp
   by_cases e:a=K
   . subst e
     rw[upd_same,upd_same,upd_same] at hp
     rcases hp.2 with h | ⟨R,h,-⟩
     . exact Or.inr ⟨rfl,h⟩
     . cases h
   . rw[Z9 _ _ _ _ e,Z9 _ _ _ _ e,Z9 _ _ _ _ e] at hp;exact Or.inl hp
 have lr2:ZF (w'.setCell ⟨Wb,K,none⟩ (pP b0 0)) b0 (.pointer none) (yF kd k (h.H 0)):=by rw[P.hH];exact lr.only o (fun e=>by omega)
 have X1:=P.lc.start (K:=K) (kd:=kd) (key:=k) hG (by decide) hJ (by omega) hts (by omega) (by omega)
 refine⟨P1.mm.only o (fun x hx=>no 0 x (by decide) hx),P.vl,X1,P1.v.only o (no 1 _ (by decide) rfl),WZ P1.bw o (fun x e=>P.ge 2 x e),?_,P1.nr.of_block (o.block _ P1.nr.lt (no 3 _ (by decide) rfl)),P1.tr.of_block (o.block _ P1.tr.lt (no 4 _ (by decide) rfl)),fun a C rs e=>?_,P1.r.only o (no 5 _ (by decide) rfl),fun K' e=>?_,P.hH,fun K' h3=>?_,fun i x hp=>?_,fun i j x h1 h2=>?_,fun i x hp=>?_⟩
 . exact(P1.ar.set K (pP b0 0)).congr fun j _=>by
    by_cases e:j=K
    . rw[if_pos e,e,upd_same]
    . rw[if_neg e,Z9 _ _ _ _ e]
 . by_cases ea:a=K
   . subst ea
     rw[upd_same] at e ⊢
     rw[upd_same,upd_same,upd_same]
     injection e with e
     injection e with e1 e2
     subst e1 e2
     exact⟨rfl,_,0,P.lc.qV hk (fun hh=>by have:=P.lt 0 b0 hh;omega) (P.pz a hts) lr2⟩
   . rw[Z9 _ _ _ _ ea] at e
     rw[Z9 _ _ _ _ ea,Z9 _ _ _ _ ea,Z9 _ _ _ _ ea,Z9 _ _ _ _ ea]
     obtain⟨k1,S,ph,k2⟩:=P1.cal a C rs e
     exact⟨k1,S,ph,k2.keep o (fun x hx=>no (a+6) x (by omega) ⟨by rw[e];simp,hx⟩)⟩
 . by_cases ea:K'=K
   . rw[ea,upd_same] at e;cases e
   . rw[Z9 _ _ _ _ ea] at e;exact P.pz K' e
 . rw[Z9 _ _ _ _ (by omega)];exact P.n3 K' h3
 . refine Nat.lt_of_lt_of_le ?_ o.size
   rcases pt i x hp with h | ⟨-,rfl⟩
   . exact P1.lt i x h
   . exact lr.lt
 . rcases pt i x h1 with k1 | ⟨rfl,k1⟩
   . rcases pt j x h2 with k2 | ⟨rfl,k2⟩
     . exact P.ap i j x k1 k2
     . have:=P.lt i x k1;omega
   . rcases pt j x h2 with k2 | ⟨rfl,k2⟩
     . have:=P.lt j x k2;omega
     . rfl
 . rcases pt i x hp with h | ⟨-,rfl⟩
   . exact P.ge i x h
   . have:=P.bw.size;omega
end
def Y2 (w0 w:World) (L:Loc) (E Wb Nb Tb b c:Nat) (who:Int) (σ0 σ bg:Nat) (ts:Nat->Option (Cl × Option Rs)) (lb:Nat->Nat) (pp:Nat->Value) (nw:Nat->List Value) (nx:Nat->Nat) (D D2:List Dd):Prop :=
 ∃ s q pn h jb F u rn,Pop w0 w L E Wb Nb Tb b c who s σ q pn h jb F u ts lb rn pp nw nx D/\LJ σ0 σ q h jb u ts bg D2
section
variable {w0 w w':World} {L:Loc} {E Wb Nb Tb b c σ0 σ K bg:Nat} {who:Int} {ts:Nat->Option (Cl × Option Rs)} {lb:Nat->Nat} {pp:Nat->Value} {nw:Nat->List Value} {nx:Nat->Nat} {D D2:List Dd} {C:Cl} {rs:Option Rs}
theorem Y2.grown (A:Y2 w0 w L E Wb Nb Tb b c who σ0 σ bg ts lb pp nw nx D D2) (g:Below w.heap.size w w'):Y2 w0 w' L E Wb Nb Tb b c who σ0 σ bg ts lb pp nw nx D D2:=by
 obtain⟨s,q,pn,h,jb,F,u,rn,P,S⟩:=A
 exact⟨s,q,pn,h,jb,F,u,rn,P.grown g,S⟩
theorem Y2.begin (A:Y2 w0 w L E Wb Nb Tb b c who σ0 σ bg ts lb pp nw nx D D2) (hK:K<3) (hts:ts K=none) (hb:bg<=30) {kd:Int} {k b0:Nat} (hk:kd=1\/kd=2\/kd=3) (k8:k<8) (g:Below w.heap.size w w') (hb0:w.heap.size<=b0) (lr:ZF w' b0 (.pointer none) (yF kd k 65536)) :
 Y2 w0 (w'.setCell ⟨Wb,K,none⟩ (pP b0 0)) L E Wb Nb Tb b c who σ0 σ (bg+1) (upd ts K (some (⟨kd,k,σ,none,.first⟩,none))) (upd lb K b0) (upd pp K (pP b0 0)) nw nx D D2:=by
 obtain⟨s,q,pn,h,jb,F,u,rn,P,S⟩:=A
 have:=S.oh hb
 exact⟨s,q,pn,h,_,F,u,_,P.begin hK hts (by omega) hk k8 g hb0 lr,S.begin hK P.lc hts k8⟩
theorem Y2.step (A:Y2 w0 w L E Wb Nb Tb b c K σ0 σ bg ts lb pp nw nx D D) (hK:K<3) (hb:bg<=30) (hσ:σ<1000000) (hts:ts K=some (C,rs)) :
 Calls Tryz.prog 15 #[.pointer (some ⟨lb K,0,none⟩),FZ 4 40 12 40 100 600 3 L.p K] w fun e w'=>∃ d,e=.returned (.bool d)/\Only (fun x=>∃ i,(i=0\/6<=i)/\x<w.heap.size/\∃ rn,Pw L E Wb Nb Tb b ts lb rn i x) w w'/\((d=false/\∃ ts',Y2 w0 w' L E Wb Nb Tb b c K σ0 (σ+1) bg ts' lb pp nw nx D D/\(∀ a,a≠K->ts' a=ts a)/\∃ C' r',ts' K=some (C',r')/\C'.kd=C.kd/\C'.k=C.k/\C'.b=C.b)\/(d=true/\∃ (ts':Nat->Option (Cl × Option Rs)) (v:Int) (st:Nat) (S2:Lr) (k:Nat),(∀ a,a≠K->ts' a=ts a)/\ts' K=none/\ZF w' (lb K) (.pointer none) S2/\S2.kd≠0/\S2.nx=13/\S2.cE=0/\S2.cH=0/\S2.cV=v/\S2.cS=(st:Nat)/\C.k=k/\∀ wh,Y2 w0 w' L E Wb Nb Tb b c K σ0 (σ+1) bg ts' lb pp nw nx D (D ++ [⟨wh,C.kd,k,v,st,C.b,σ+1⟩]))):=by
 obtain⟨s,q,pn,h,jb,F,u,rn,P,Sh⟩:=A
 have hG:Good 4 40 12 40 100 600 3:=Qw (by decide) (by decide)
 have hJ:=Sh.oh hb
 obtain⟨hp,S,ph,hc⟩:=P.cal K C rs hts
 refine(P.lc.yG P.mm P.vl hG (by decide) (by omega) (by omega) hσ (by omega) (by omega) hts hc).mono ?_
 rintro e w' ⟨s',h',q',u',F',C1,r1,b1,YO,XW,Q1,O⟩
 have act:∀ {x},Vp (lb K) (rn K) x->Pw L E Wb Nb Tb b ts lb rn (K+6) x:=fun hx=>⟨by rw[hts];simp,hx⟩
 have kR:Only (fun x=>∃ i,(i=0\/6<=i)/\x<w.heap.size/\∃ rn,Pw L E Wb Nb Tb b ts lb rn i x) w w':=Q1.on.mono (fun x hx hh=>by
  rcases hh with hh | hh
  . exact⟨0,Or.inl rfl,hx,rn,hh⟩
  . exact⟨K+6,Or.inr (by omega),hx,rn,act hh⟩)
 have no:∀ i x,i≠0->i≠K+6->Pw L E Wb Nb Tb b ts lb rn i x->¬ (L.has x\/Vp (lb K) (rn K) x):=fun i x h1 h2 h3 h4=>by
  rcases h4 with h4 | h4
  . exact h1 (P.ap i 0 x h3 h4)
  . exact h2 (P.ap i (K+6) x h3 (act h4))
 obtain⟨hJ',nd⟩:=Q1.go.nd
 have sm:=Q1.go.same
 have hH':h'.H 0=65536:=(TL nd hc.bd.h).trans P.hH
 have oM:∀ a,a≠K->YO a=pn a:=fun a ha=>by
  rcases Q1.pn with⟨e,-⟩ | ⟨e,-⟩ | ⟨e,-⟩
  . rw[e]
  . rw[e,Z9 _ _ _ _ ha]
  . rw[e,Z9 _ _ _ _ ha]
 have Sg:=Sh.go hb (by decide) hK P.lc Q1.lc hts hc.is Q1.go
 -- all of it but the one that was picked
 have kQ:∀ (qp:Nat->Jb) (x2:Option (Cl × Option Rs)) (uu:Option Rn),Lc 4 40 12 40 q' (σ+1) h' qp 0 F' u' (upd ts K x2)->(∀ a,a≠K->qp a=jb a)->(∀ C2 r2,x2=some (C2,r2)->∃ S2 dA,Cal 4 40 12 40 w' L (σ+1) q' YO h' 0 K (qp K) C2 r2 S2 (lb K) uu dA)->(x2=none->YO K=0)->(∀ x,x2≠none->Vp (lb K) uu x->Vp (lb K) (rn K) x\/(w.heap.size<=x/\x<w'.heap.size))->Pop w0 w' L E Wb Nb Tb b c K s' (σ+1) q' YO h' qp F' u' (upd ts K x2) lb (upd rn K uu) pp nw nx D:=fun qp x2 uu X2 hjb kP hpz hown=>by
  have pt:∀ i x,Pw L E Wb Nb Tb b (upd ts K x2) lb (upd rn K uu) i x->Pw L E Wb Nb Tb b ts lb rn i x\/(i=K+6/\w.heap.size<=x/\x<w'.heap.size):=fun i x hp=>by
   match i,hp with
   | 0,hp=>exact Or.inl hp
   | 1,hp=>exact Or.inl hp
   | 2,hp=>exact Or.inl hp
   | 3,hp=>exact Or.inl hp
   | 4,hp=>exact Or.inl hp
   | 5,hp=>exact Or.inl hp
   | a+6,hp =>
    have hp:upd ts K x2 a≠none/\Vp (lb a) (upd rn K uu a) x:=hp
    by_cases e:a=K
    . subst e
      rw[upd_same,upd_same] at hp
      rcases hown x hp.1 hp.2 with h | h
      . exact Or.inl (act h)
      . exact Or.inr ⟨rfl,h⟩
    . rw[Z9 _ _ _ _ e,Z9 _ _ _ _ e] at hp;exact Or.inl hp
  refine⟨Q1.mm,Q1.vl,X2,P.v.only Q1.on (no 1 E (by decide) (by omega) rfl),WZ P.bw Q1.on (fun x hx=>hx.elim (fun h=>P.ge 0 x h) (fun h=>P.ge (K+6) x (act h))),P.ar.of_block (Q1.on.block _ P.ar.lt (no 2 _ (by decide) (by omega) rfl)),P.nr.of_block (Q1.on.block _ P.nr.lt (no 3 _ (by decide) (by omega) rfl)),P.tr.of_block (Q1.on.block _ P.tr.lt (no 4 _ (by decide) (by omega) rfl)),fun a C2 r2 e=>?_,P.r.only Q1.on (no 5 _ (by decide) (by omega) rfl),fun a e=>?_,hH',fun a h3=>?_,fun i x hp=>?_,fun i j x k1 k2=>?_,fun i x hp=>?_⟩
  . by_cases ea:a=K
    . subst ea
      rw[upd_same] at e
      rw[upd_same]
      exact⟨hp,kP C2 r2 e⟩
    . rw[Z9 _ _ _ _ ea] at e
      rw[Z9 _ _ _ _ ea,hjb a ea]
      obtain⟨k1,S3,dm,k2⟩:=P.cal a C2 r2 e
      exact⟨k1,S3,dm,k2.other P.lc.m Q1.lc.m ea hJ' nd (oM a ea) Q1.on (fun x hx=>no (a+6) x (by omega) (by omega) ⟨by rw[e];simp,hx⟩)⟩
  . by_cases ea:a=K
    . rw[ea,upd_same] at e;rw[ea];exact hpz e
    . rw[Z9 _ _ _ _ ea] at e;rw[oM a ea];exact P.pz a e
  . rw[Z9 _ _ _ _ (by omega)];exact P.n3 a h3
  . rcases pt i x hp with h | ⟨-,-,h⟩
    . exact Nat.lt_of_lt_of_le (P.lt i x h) Q1.on.size
    . exact h
  . rcases pt i x k1 with k1 | ⟨rfl,k1,-⟩
    . rcases pt j x k2 with k2 | ⟨rfl,k2,-⟩
      . exact P.ap i j x k1 k2
      . have:=P.lt i x k1;omega
    . rcases pt j x k2 with k2 | ⟨rfl,k2,-⟩
      . have:=P.lt j x k2;omega
      . rfl
  . rcases pt i x hp with h | ⟨-,h,-⟩
    . exact P.ge i x h
    . have:=P.bw.size;omega
 rcases O with⟨n5,e1,a',hc',hB⟩ | ⟨p5,pk,R,S2,C2,hr,N,lr2,I2,O⟩
 . refine⟨false,e1,kR,Or.inl ⟨rfl,_,⟨s',q',YO,h',_,F',u',_,kQ _ _ (some a') Q1.lc (fun a ha=>Z9 _ _ _ _ ha) (fun C2 r2 e=>?_) (fun e=>by cases e) (fun x _ hx=>?_),Sg⟩,fun a ha=>Z9 _ _ _ _ ha,C1,r1,upd_same _ _ _,sm.2.2.1,sm.2.1,sm.2.2.2⟩⟩
   . injection e with e
     injection e with e2 e3
     subst e2 e3
     exact⟨S,XW,by rw[upd_same];exact hc'⟩
   . rcases hx with hx | ⟨R,e,hR⟩
     . exact Or.inl (Or.inl hx)
     . injection e with e
       subst e
       exact hB x hR
 . subst hr p5
   have MI:upd ts K (some (C1,some R)) K=some (C1,some R):=upd_same _ _ _
   have T1:=Q1.lc.t K C1 _ MI
   obtain⟨I1,-⟩:=hc.is.go1 hc.bd Q1.go
   have uG:=N.same
   rcases O with⟨E2,v,st,e1,e2,rfl⟩ | ⟨G,ho,rfl,X2,hc2⟩
   . obtain⟨k,k8,hk⟩:=Sg.k8 K C1 _ MI
     have ip:=I2.po
     rw[e1] at ip
     obtain⟨i1,i2,i3,i4,i5⟩:=ip
     have hkk:S2.kd≠0:=by have h1:=I2.kd;have h2:=I2.k13;omega
     have D1:=fun wh=>Sg.done hK Q1.lc MI I1 e2 wh hk
     have E0:E2=0:=(D1 0).1
     have X3:=Q1.lc.end_ (K:=K) (T1.told R rfl).1
     rw[XJ] at X3
     refine⟨true,rfl,kR,Or.inr ⟨rfl,upd ts K none,v,st,S2,k,fun a ha=>Z9 _ _ _ _ ha,upd_same _ _ _,lr2,hkk,i1,i2.trans E0,i3,i4,i5,sm.2.1 ▸ hk,fun wh=>?_⟩⟩
     have D2:=(D1 wh).2
     rw[XJ,sm.2.2.1,sm.2.2.2] at D2
     exact⟨s',q',YO,h',_,F',u',_,kQ _ none none X3 (fun a ha=>Z9 _ _ _ _ ha) (fun C2 r2 e=>by cases e) (fun _=>pk) (fun x h _=>absurd rfl h),D2⟩
   . have S3:=Sg.next hK Q1.lc MI I1 N G
     rw[XJ,XJ] at S3
     refine⟨false,rfl,kR,Or.inl ⟨rfl,_,⟨s',q',YO,h',_,F',u',_,kQ _ _ none X2 (fun a ha=>Z9 _ _ _ _ ha) (fun C3 r3 e=>?_) (fun e=>by cases e) (fun x _ hx=>?_),S3⟩,fun a ha=>Z9 _ _ _ _ ha,C2,none,upd_same _ _ _,uG.1.trans sm.2.2.1,uG.2.1.trans sm.2.1,uG.2.2.trans sm.2.2.2⟩⟩
     . injection e with e
       injection e with e2 e3
       subst e2 e3
       exact⟨S2,0,by rw[upd_same];exact hc2⟩
     . rcases hx with hx | ⟨R,e,hR⟩
       . exact Or.inl (Or.inl hx)
       . cases e
theorem Y2.alt (A:Y2 w0 w L E Wb Nb Tb b c who σ0 σ bg ts lb pp nw nx D D2) {B i0:Nat} (hB:(i0=1/\B=E)\/(i0=2/\B=Wb)\/(i0=3/\B=Nb)\/(i0=4/\B=Tb)) (o:Only (fun x=>x=B) w w') {who':Int} {zA:Nat->Value} {vz:Nat->List Value} {nx':Nat->Nat}
 (ev:if i0=1 then (VQ w E L who->VQ w' E L who') else who'=who) (ea:if i0=2 then (w.rowIs Wb 43 3 pp->w'.rowIs Wb 43 3 zA)/\(∀ a C rs,ts a=some (C,rs)->zA a=pp a) else zA=pp) (en:if i0=3 then (Wy w Nb nw->Wy w' Nb vz) else vz=nw) (et:if i0=4 then (w.rowIs Tb 47 3 (fun a=>iV (nx a))->w'.rowIs Tb 47 3 (fun a=>iV (nx' a))) else nx'=nx) :
 Y2 w0 w' L E Wb Nb Tb b c who' σ0 σ bg ts lb zA vz nx' D D2:=by
 obtain⟨s,q,pn,h,jb,F,u,rn,P,S⟩:=A
 have o':Only (Pw L E Wb Nb Tb b ts lb rn i0) w w':=o.mono (fun x _ hx=>by
  rcases hB with⟨rfl,rfl⟩ | ⟨rfl,rfl⟩ | ⟨rfl,rfl⟩ | ⟨rfl,rfl⟩ <;> exact hx)
 refine⟨s,q,pn,h,jb,F,u,rn,P.alt (i0:=i0) (by omega) (by omega) o' ?_ ?_ ?_ ?_ ?_,S⟩
 . by_cases e:i0=1
   . rw[if_pos e] at ev ⊢;exact ev P.v
   . rw[if_neg e] at ev ⊢;exact ev
 . by_cases e:i0=2
   . rw[if_pos e] at ea ⊢;exact⟨ea.1 P.ar,ea.2⟩
   . rw[if_neg e] at ea ⊢;exact ea
 . by_cases e:i0=3
   . rw[if_pos e] at en ⊢;exact en P.nr
   . rw[if_neg e] at en ⊢;exact en
 . by_cases e:i0=4
   . rw[if_pos e] at et ⊢;exact et P.tr
   . rw[if_neg e] at et ⊢;exact et
 . rw[if_neg (by omega)]
theorem zy:(Tryz.prog.info? 45).map (fun i=>(i.zero,i.size,i.bytes))=some (some (.agg #[iV 0,iV 0,iV 0,iV 0,.int .u64 0,iV 0,iV 0,iV 0,iV 0]),9,72):=by kernel_rfl
theorem Y2.app (A:Y2 w0 w L E Wb Nb Tb b c who σ0 σ bg ts lb pp nw nx D D2) {d:Dd} (g:Nat) (hg:∀ (j:Nat) x,d.dn[j]?=some x->w.cell? ⟨g,j,none⟩=some x) (hl:D.length<=5000) {N:Nat} (hN:D.length=N) :
 ∃ b' c' w',(Builtin.append_ #[48,48] 48 #[.slice (some ⟨b,0,none⟩) N c,.slice (some ⟨g,0,none⟩) 1 1]).run Tryz.prog w=.ok (.slice (some ⟨b',0,none⟩) (N+1) c') w'/\Y2 w0 w' L E Wb Nb Tb b' c' who σ0 σ bg ts lb pp nw nx (D ++ [d]) D2/\Only (fun x=>x=b) w w':=by
 obtain⟨s,q,pn,h,jb,F,u,rn,P,S⟩:=A
 obtain⟨b',c',w',hrun,R',o,e⟩:=P.r.app (S:=48) (bytes:=72) Tryz.underlying48 zy rfl (by decide) (by decide) g d.dn rfl (fun u hu=>by
  simp only[Dd.dn,List.mem_cons,List.not_mem_nil,or_false] at hu
  rcases hu with rfl | rfl | rfl | rfl | rfl | rfl | rfl | rfl | rfl <;> rfl) hg (by rw[List.length_map];exact hl) 48
 rw[List.length_map,hN] at hrun
 have em:D.map Dd.dn ++ [d.dn]=(D ++ [d]).map Dd.dn:=by simp
 rw[em] at R'
 refine⟨b',c',w',hrun,?_,o⟩
 rcases e with⟨rfl,rfl,-⟩ | ⟨hb,g1⟩
 . refine⟨s,q,pn,h,jb,F,u,rn,P.alt (i0:=5) (by decide) (by decide) o ?_ ?_ ?_ ?_ ?_,S⟩
   . rw[if_neg (by decide)]
   . rw[if_neg (by decide)]
   . rw[if_neg (by decide)]
   . rw[if_neg (by decide)]
   . rw[if_pos rfl];exact R'
 . have P1:=P.grown g1
   have pt:∀ i x,Pw L E Wb Nb Tb b' ts lb rn i x->Pw L E Wb Nb Tb b ts lb rn i x/\i≠5\/(i=5/\x=b'):=fun i x hp=>by
    match i,hp with
    | 0,hp=>exact Or.inl ⟨hp,by decide⟩
    | 1,hp=>exact Or.inl ⟨hp,by decide⟩
    | 2,hp=>exact Or.inl ⟨hp,by decide⟩
    | 3,hp=>exact Or.inl ⟨hp,by decide⟩
    | 4,hp=>exact Or.inl ⟨hp,by decide⟩
    | 5,hp=>exact Or.inr ⟨rfl,hp⟩
    | a+6,hp=>exact Or.inl ⟨hp,by omega⟩
   refine⟨s,q,pn,h,jb,F,u,rn,⟨P1.mm,P1.vl,P1.lc,P1.v,P1.bw,P1.ar,P1.nr,P1.tr,P1.cal,R',P1.pz,P1.hH,P1.n3,fun i x hp=>?_,fun i j x k1 k2=>?_,fun i x hp=>?_⟩,S⟩
   . rcases pt i x hp with⟨h,-⟩ | ⟨-,rfl⟩
     . exact P1.lt i x h
     . exact R'.lt
   . rcases pt i x k1 with⟨k1,n1⟩ | ⟨rfl,k1⟩
     . rcases pt j x k2 with⟨k2,-⟩ | ⟨rfl,k2⟩
       . exact P.ap i j x k1 k2
       . have:=P.lt i x k1;omega
     . rcases pt j x k2 with⟨k2,-⟩ | ⟨rfl,k2⟩
       . have:=P.lt j x k2;omega
       . rfl
   . rcases pt i x hp with⟨h,-⟩ | ⟨-,rfl⟩
     . exact P.ge i x h
     . have:=P.bw.size;omega
theorem Y2.end_ (A:Y2 w0 w L E Wb Nb Tb b c who σ0 σ bg ts lb pp nw nx D D) (hb:bg<=30) (hs:σ<=100000) (hp:∀ a,a<3->pp a=.pointer none):∃ u,MJ σ0 σ u D/\∀ (B:Nat) (z:Nat->Bool) (w1:World) (wh:Int),Below w.heap.size w w1->Bz w1 B 8 z->(∀ x:Int,0<=x->(u.S σ x↔∃ i:Nat,i<8/\x=(i:Nat)/\z i=true)) ->
 Calls Tryz.prog 12 #[eV 4 40 12 40 100 600 3 L.p wh,.int .u64 65536,.slice (some ⟨B,0,none⟩) 8 8] w1 fun e w'=>e=.returned (.bool true)/\Below w1.heap.size w1 w':=by
 obtain⟨s,q,pn,h,jb,F,u,rn,P,S⟩:=A
 have hn:∀ K,ts K=none:=fun K=>by
  by_cases h3:K<3
  . cases e:ts K with
    | none=>rfl
    | some cr =>
     obtain⟨C,rs⟩:=cr
     have:=(P.cal K C rs e).1
     rw[hp K h3] at this
     cases this
  . exact P.n3 K (by omega)
 refine⟨u,S.told P.lc hn hb hs,fun B z w1 wh g bz hz=>?_⟩
 have hl:=P.vl.tw.pile.len
 have ha:ZG 4 40 12 40=6+4+40 * 2+12 * 3+12 * 40:=rfl
 have hj:=S.oh hb
 have:=Jo (bI:=B) (ln:=8) (z:=z) (Qw (n:=40) (by decide) (by decide)) (P.mm.below g) (by omega) (fun j hj'=>P.lc.node P.vl (Qw (n:=40) (by decide) (by decide)) (by decide) (by omega) hj') P.lc.l.l (Nat.le_trans P.lc.len (by decide)) (fun i hi=>bz.cell hi) (by decide) (fun x hx=>(P.lc.l.S x hx).symm.trans (hz x hx)) (by unfold Gh.ky;rw[if_pos rfl]) wh
 rw[P.hH] at this
 exact this
theorem Y2.start {s:Mm} {F:List Nat} (R:Rest 4 40 L 0 97 1 w s σ (qH 4 40 12 40 F) (fun _=>0) (DZ 4 40 12 40) (fun _=>.nil) 0 [0] wW (fun _=>none)) (v:VQ w E L 0) (bw:Below w0.heap.size w0 w) (ar:w.rowIs Wb 43 3 (fun _=>.pointer none)) (nr:Wy w Nb nw) (tr:w.rowIs Tb 47 3 (fun _=>iV ((0:Nat):Int))) (r:Rz w 45 9 b c []) (hl:∀ x,L.has x->w0.heap.size<=x/\x<E) (h1:w0.heap.size<=E) (h2:E<Wb) (h3:Wb≠Nb/\E<Nb) (h4:Tb≠Nb/\Tb≠Wb/\E<Tb) (h5:b≠Tb/\b≠Nb/\b≠Wb/\E<b):Y2 w0 w L E Wb Nb Tb b c 0 σ σ 0 (fun _=>none) lb (fun _=>.pointer none) nw (fun _=>0) [] []:=by
 refine⟨s,_,_,_,_,_,_,fun _=>none,⟨R.mm,R.vl,R.lc,v,bw,ar,nr,tr,(fun a C rs e=>by cases e),r,fun _ _=>rfl,yE 4 40 12 40,fun _ _=>rfl,fun i x hp=>?_,fun i j x hi hj=>?_,fun i x hp=>?_⟩,⟨⟨_,_,0,jv (by decide)⟩,fun _ _=>rfl,by show 1+(0+0+0+0)<=1+0;decide,(fun K C rs e=>by cases e),⟨fun s h1 h2 h3=>absurd rfl h3,List.Pairwise.nil,(fun K s e h=>by cases h),(fun K K' s h=>by cases h),(fun e h=>by cases h),(fun K s h=>by cases h)⟩,(fun d h=>by cases h),(fun K C rs e=>by cases e),(fun K C rs e=>by cases e),fun key _ h=>h,by show 0+(0+0+0+0)<=0;decide,Nat.le_refl _⟩⟩
 . match i,hp with
   | 0,hp=>exact R.mm.lt x hp
   | 1,hp=>rw[show x=E from hp];exact X8 v
   | 2,hp=>rw[show x=Wb from hp];exact ar.lt
   | 3,hp=>rw[show x=Nb from hp];exact nr.lt
   | 4,hp=>rw[show x=Tb from hp];exact tr.lt
   | 5,hp=>rw[show x=b from hp];exact r.lt
   | a+6,hp=>exact absurd rfl hp.1
 . have key:∀ i,Pw L E Wb Nb Tb b (fun _=>none) lb (fun _=>none) i x->(i=0/\x<E)\/(i=1/\x=E)\/(i=2/\x=Wb)\/(i=3/\x=Nb)\/(i=4/\x=Tb)\/(i=5/\x=b):=fun i hp=>by
    match i,hp with
    | 0,hp=>exact Or.inl ⟨rfl,(hl x hp).2⟩
    | 1,hp=>exact Or.inr (Or.inl ⟨rfl,hp⟩)
    | 2,hp=>exact Or.inr (Or.inr (Or.inl ⟨rfl,hp⟩))
    | 3,hp=>exact Or.inr (Or.inr (Or.inr (Or.inl ⟨rfl,hp⟩)))
    | 4,hp=>exact Or.inr (Or.inr (Or.inr (Or.inr (Or.inl ⟨rfl,hp⟩))))
    | 5,hp=>exact Or.inr (Or.inr (Or.inr (Or.inr (Or.inr ⟨rfl,hp⟩))))
    | a+6,hp=>exact absurd rfl hp.1
   have k1:=key i hi
   have k2:=key j hj
   omega
 . match i,hp with
   | 0,hp=>exact(hl x hp).1
   | 1,hp=>rw[show x=E from hp];exact h1
   | 2,hp=>rw[show x=Wb from hp];omega
   | 3,hp=>rw[show x=Nb from hp];omega
   | 4,hp=>rw[show x=Tb from hp];omega
   | 5,hp=>rw[show x=b from hp];omega
   | a+6,hp=>exact absurd rfl hp.1
end
end
end Go.Proofs.YtpbghmeikcphnaaGreat
