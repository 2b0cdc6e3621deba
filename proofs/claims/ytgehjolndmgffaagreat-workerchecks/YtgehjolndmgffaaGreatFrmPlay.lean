import Derived.Test.YtgehjolndmgffaaGreatLay
import Derived.Test.YtgehjolndmgffaaGreatFrmStep
import Derived.Test.YtgehjolndmgffaaGreatFrmList
namespace Go.Proofs.YtgehjolndmgffaaGreat
open Go.RowKit
section
abbrev Os:=List (Int × List Int)
def Yz (h:Int) (ws:List Int):Bool->Os->Os
 | b,[]=>if b then [] else [(h,ws)]
 | b,(a,u) :: l=>(if b=false/\h<=a then [(h,ws)] else []) ++ (if a≠h then [(a,u)] else []) ++ Yz h ws (b || decide (h<=a)) l
def YS (h:Int) (os:Os):Os:=os.filter fun p=>decide (p.1≠h)
def X3 (h:Int):Os->Option (List Int)
 | []=>none
 | (a,u) :: l=>if a=h then some u else X3 h l
def Xi (x:Int):Bool->List Int->List Int
 | b,[]=>if b then [] else [x]
 | b,a :: l=>(if b=false/\x<=a then [x] else []) ++ (if a≠x then [a] else []) ++ Xi x (b || decide (x<=a)) l
theorem V6 (h:Int) (ws:List Int):∀ os:Os,Yz h ws true os=YS h os
 | []=>rfl
 | (a,u) :: l=>by
  have ih:=V6 h ws l
  unfold Yz YS
  rw[Bool.true_or,ih,if_neg (by simp)]
  by_cases e:a=h
  . subst e;simp[YS]
  . simp[YS,e]
theorem Vb (x:Int):∀ ks:List Int,Xi x true ks=ks.filter fun a=>decide (a≠x)
 | []=>rfl
 | a :: l=>by
  have ih:=Vb x l
  unfold Xi
  rw[Bool.true_or,ih,if_neg (by simp)]
  by_cases e:a=x
  . subst e;simp
  . simp[e]
def UJ (os:Os):Prop:=os.Pairwise fun p p'=>p.1<p'.1
theorem Xc {h a:Int} {u:List Int} {os:Os}:(a,u)∈YS h os↔a≠h/\(a,u)∈os:=by
 unfold YS
 rw[List.mem_filter]
 simp[and_comm]
theorem XM {h:Int} {os:Os} (r:UJ os):UJ (YS h os):=List.Pairwise.filter _ r
theorem WG {h:Int} {ws:List Int} {a:Int} {u:List Int}:∀ {os:Os},UJ os->((a,u)∈Yz h ws false os↔(a=h/\u=ws)\/(a≠h/\(a,u)∈os))
 | [],_=>by simp[Yz]
 | (a',u') :: l,r=>by
  have r2:=(List.pairwise_cons.1 r)
  have ih:=WG (h:=h) (ws:=ws) (a:=a) (u:=u) (os:=l) r2.2
  unfold Yz
  by_cases hl:h<=a'
  . rw[if_pos ⟨rfl,hl⟩,Bool.false_or,decide_eq_true hl,V6]
    simp only[List.mem_append,Xc,List.mem_cons,List.not_mem_nil,or_false,Prod.mk.injEq]
    by_cases e:a'=h
    . rw[if_neg (by simp[e])]
      constructor
      . rintro((h' | h') | h')
        . exact Or.inl h'
        . cases h'
        . exact Or.inr ⟨h'.1,Or.inr h'.2⟩
      . rintro(h' | ⟨h1,h2 | h2⟩)
        . exact Or.inl (Or.inl h')
        . exact absurd (h2.1.trans e) h1
        . exact Or.inr ⟨h1,h2⟩
    . rw[if_pos e]
      simp only[List.mem_cons,List.not_mem_nil,or_false,Prod.mk.injEq]
      constructor
      . rintro((h' | h') | h')
        . exact Or.inl h'
        . exact Or.inr ⟨by rw[h'.1];exact e,Or.inl h'⟩
        . exact Or.inr ⟨h'.1,Or.inr h'.2⟩
      . rintro(h' | ⟨h1,h2 | h2⟩)
        . exact Or.inl (Or.inl h')
        . exact Or.inl (Or.inr h2)
        . exact Or.inr ⟨h1,h2⟩
  . rw[if_neg (fun hh=>hl hh.2),Bool.false_or,decide_eq_false hl,if_pos (by omega)]
    simp only[List.nil_append,List.cons_append,List.mem_cons,Prod.mk.injEq,ih]
    constructor
    . rintro(h' | h' | h')
      . exact Or.inr ⟨by omega,Or.inl h'⟩
      . exact Or.inl h'
      . exact Or.inr ⟨h'.1,Or.inr h'.2⟩
    . rintro(h' | ⟨h1,h2 | h2⟩)
      . exact Or.inr (Or.inl h')
      . exact Or.inl h2
      . exact Or.inr (Or.inr ⟨h1,h2⟩)
theorem WE {h:Int} {ws:List Int}:∀ {os:Os},UJ os->UJ (Yz h ws false os)
 | [],_=>by simp[Yz,UJ]
 | (a',u') :: l,r=>by
  have r2:=(List.pairwise_cons.1 r)
  have ih:=WE (h:=h) (ws:=ws) (os:=l) r2.2
  unfold Yz
  by_cases hl:h<=a'
  . rw[if_pos ⟨rfl,hl⟩,Bool.false_or,decide_eq_true hl,V6]
    have lt:∀ p∈YS h l,a'<p.1:=fun p hp=>r2.1 p (Xc.1 (show (p.1,p.2)∈_ from hp)).2
    by_cases e:a'=h
    . rw[if_neg (by simp[e])]
      refine List.pairwise_cons.2 ⟨fun p hp=>?_,XM r2.2⟩
      have:=lt p (by simpa using hp)
      show h<p.1;omega
    . rw[if_pos e]
      refine List.pairwise_cons.2 ⟨fun p hp=>?_,List.pairwise_cons.2 ⟨fun p hp=>lt p (by simpa using hp),XM r2.2⟩⟩
      show h<p.1
      rcases List.mem_cons.1 hp with rfl | hp
      . show h<a';omega
      . have:=lt p (by simpa using hp);omega
  . rw[if_neg (fun hh=>hl hh.2),Bool.false_or,decide_eq_false hl,if_pos (by omega)]
    refine List.pairwise_cons.2 ⟨fun p hp=>?_,ih⟩
    show a'<p.1
    rcases (WG (a:=p.1) (u:=p.2) r2.2).1 hp with⟨h',-⟩ | ⟨-,h'⟩
    . omega
    . exact r2.1 p h'
theorem Xh {h:Int} {u:List Int}:∀ {os:Os},UJ os->(X3 h os=some u↔(h,u)∈os)
 | [],_=>by simp[X3]
 | (a',u') :: l,r=>by
  have r2:=(List.pairwise_cons.1 r)
  have ih:=Xh (h:=h) (u:=u) (os:=l) r2.2
  unfold X3
  by_cases e:a'=h
  . subst e
    rw[if_pos rfl]
    constructor
    . intro h';cases h';simp
    . intro h'
      rcases List.mem_cons.1 h' with h' | h'
      . cases h';rfl
      . have:=r2.1 _ h';simp only at this;omega
  . rw[if_neg e,ih]
    constructor
    . exact fun h'=>List.mem_cons_of_mem _ h'
    . intro h'
      rcases List.mem_cons.1 h' with h' | h'
      . cases h';exact absurd rfl e
      . exact h'
theorem NL {h:Int} {os:Os} (r:UJ os):X3 h os=none↔∀ u,(h,u)∉os:=by
 constructor
 . intro e u hu
   rw[(Xh r).2 hu] at e;cases e
 . intro hh
   cases e:X3 h os with
   | none=>rfl
   | some u=>exact absurd ((Xh r).1 e) (hh u)
theorem TZ {x a:Int}:∀ {ks:List Int},ks.Pairwise (·<·)->(a∈Xi x false ks↔a=x\/a∈ks)
 | [],_=>by simp[Xi]
 | a' :: l,r=>by
  have r2:=(List.pairwise_cons.1 r)
  have ih:=TZ (x:=x) (a:=a) (ks:=l) r2.2
  unfold Xi
  by_cases hl:x<=a'
  . rw[if_pos ⟨rfl,hl⟩,Bool.false_or,decide_eq_true hl,Vb]
    simp only[List.mem_append,List.mem_filter,decide_eq_true_eq,List.mem_cons,List.not_mem_nil,or_false]
    by_cases e:a'=x
    . rw[if_neg (by simp[e])]
      constructor
      . rintro((h' | h') | h')
        . exact Or.inl h'
        . cases h'
        . exact Or.inr (Or.inr h'.1)
      . rintro(h' | h' | h')
        . exact Or.inl (Or.inl h')
        . exact Or.inl (Or.inl (h'.trans e))
        . have:=r2.1 a h';exact Or.inr ⟨h',by omega⟩
    . rw[if_pos e]
      simp only[List.mem_cons,List.not_mem_nil,or_false]
      constructor
      . rintro((h' | h') | h')
        . exact Or.inl h'
        . exact Or.inr (Or.inl h')
        . exact Or.inr (Or.inr h'.1)
      . rintro(h' | h' | h')
        . exact Or.inl (Or.inl h')
        . exact Or.inl (Or.inr h')
        . have:=r2.1 a h';exact Or.inr ⟨h',by omega⟩
  . rw[if_neg (fun hh=>hl hh.2),Bool.false_or,decide_eq_false hl,if_pos (by omega)]
    simp only[List.nil_append,List.cons_append,List.mem_cons,ih]
    constructor
    . rintro(h' | h' | h')
      . exact Or.inr (Or.inl h')
      . exact Or.inl h'
      . exact Or.inr (Or.inr h')
    . rintro(h' | h' | h')
      . exact Or.inr (Or.inl h')
      . exact Or.inl h'
      . exact Or.inr (Or.inr h')
theorem TF {x:Int}:∀ {ks:List Int},ks.Pairwise (·<·)->(Xi x false ks).Pairwise (·<·)
 | [],_=>by simp[Xi]
 | a' :: l,r=>by
  have r2:=(List.pairwise_cons.1 r)
  have ih:=TF (x:=x) (ks:=l) r2.2
  unfold Xi
  by_cases hl:x<=a'
  . rw[if_pos ⟨rfl,hl⟩,Bool.false_or,decide_eq_true hl,Vb]
    have lt:∀ p∈l.filter (fun a=>decide (a≠x)),a'<p:=fun p hp=>r2.1 p (List.mem_filter.1 hp).1
    by_cases e:a'=x
    . rw[if_neg (by simp[e])]
      refine List.pairwise_cons.2 ⟨fun p hp=>?_,List.Pairwise.filter _ r2.2⟩
      have:=lt p (by simpa using hp);omega
    . rw[if_pos e]
      refine List.pairwise_cons.2 ⟨fun p hp=>?_,List.pairwise_cons.2 ⟨fun p hp=>lt p (by simpa using hp),List.Pairwise.filter _ r2.2⟩⟩
      rcases List.mem_cons.1 hp with rfl | hp
      . omega
      . have:=lt p (by simpa using hp);omega
  . rw[if_neg (fun hh=>hl hh.2),Bool.false_or,decide_eq_false hl,if_pos (by omega)]
    refine List.pairwise_cons.2 ⟨fun p hp=>?_,ih⟩
    rcases (TZ r2.2).1 hp with h' | h'
    . omega
    . exact r2.1 p h'
end
section
def Xt (kd sz ix vl ol ky h E H V:Int) (os:Os) (ks:List Int):(Os × List Int) × Bool :=
 if kd=1 then
  if ZR sz<0 then ((os,ks),decide (E=5))
  else if E≠0 then ((os,ks),decide (E=6) || decide (E=7))
  else ((Yz H (List.replicate sz.toNat 0) false os,ks),(X3 H os).isNone && decide (0<H))
 else if kd=2 then
  match X3 h os with
  | none=>((os,ks),decide (E=3))
  | some _=>((YS h os,ks),decide (E=0))
 else if kd<=5 then
  match X3 h os with
  | none=>((os,ks),decide (E=3))
  | some ws =>
   if ix<0\/(ws.length:Int)<=ix then ((os,ks),decide (E=4))
   else if kd=3 then ((os,ks),decide (E=0) && decide (V=ws.getD ix.toNat 0))
   else if kd=5/\ws.getD ix.toNat 0≠ol then ((os,ks),decide (E=8) && decide (V=ws.getD ix.toNat 0))
   else ((Yz h (ws.set ix.toNat vl) false os,ks),decide (E=0) && decide (V=ws.getD ix.toNat 0))
 else if kd=6 then ((os,ks),decide (E=0) && decide (V=if ky∈ks then 1 else 0))
 else if kd=7 then
  if E≠0 then ((os,ks),decide (E=6) || decide (E=7))
  else ((os,Xi ky false ks),decide (V=1 - if ky∈ks then 1 else 0))
 else ((os,ks.filter fun a=>decide (a≠ky)),decide (E=0) && decide (V=if ky∈ks then 1 else 0))
structure Wk (t n k m:Nat) (q:Q) (nx:Nat) (gen:Nat->Nat) (ls:List Ox) (N:Nat) (lf:Int->Nat) (hd:Nat->Ox) (ct:Nat->List Ox):Prop where
 tm:Zn t n k m q nx gen ls
 ch:∀ i,i<N->Py q ls (hd i :: ct i)
 dj:∀ i j,i<N->j<N->i≠j->∀ o∈hd i :: ct i,o∉hd j :: ct j
 pl:∀ o∈ls,o.own=true->∃ i,i<N/\o∈hd i :: ct i
 of:∀ i,i<N->∀ x,Has q (hd i :: ct i) x->lf x=i
def Q.ws (q:Q) (o:Ox):List Int:=(List.range o.Z).map (q.at o)
structure Tm (q:Q) (ls:List Ox) (N:Nat) (hd:Nat->Ox) (ct:Nat->List Ox) (os:Os) (ks:List Int):Prop where
 so:UJ os
 om:∀ h ws,(h,ws)∈os↔∃ o∈ls,o.own=false/\o.h=h/\ws=q.ws o
 sk:ks.Pairwise (·<·)
 km:∀ x,x∈ks↔∃ i,i<N/\Has q (hd i :: ct i) x
section
variable {t n k m nx nx':Nat} {q q':Q} {gen ZA:Nat->Nat} {ls ls':List Ox} {X:Xa} {E H V:Int} {N:Nat} {lf:Int->Nat} {hd:Nat->Ox} {ct:Nat->List Ox} {os:Os} {ks:List Int}
theorem Q.XF {o:Ox} (h:∀ j,j<o.Z->q'.at o j=q.at o j):q'.ws o=q.ws o:=by
 unfold Q.ws
 refine List.map_congr_left fun j hj=>h j (List.mem_range.1 hj)
theorem Q.Po (o:Ox):(q.ws o).length=o.Z:=by simp[Q.ws]
theorem Q.LC {o:Ox} {j:Nat} (hj:j<o.Z):(q.ws o).getD j 0=q.at o j:=by
 simp[Q.ws,List.getD,hj]
theorem Q.Ff {o:Ox} {j:Nat} (v:Int):(q.put o j v).ws o=(q.ws o).set j v:=by
 refine List.ext_getElem? fun i=>?_
 rw[List.getElem?_set]
 simp only[Q.ws,List.getElem?_map,List.length_map,List.length_range]
 by_cases e:j=i
 . subst e
   rw[if_pos rfl]
   by_cases h:j<o.Z
   . rw[if_pos h,List.getElem?_range h]
     simp[Q.V8]
   . rw[if_neg h,List.getElem?_eq_none (by simp;omega)];rfl
 . rw[if_neg e]
   by_cases h:i<o.Z
   . rw[List.getElem?_range h]
     simp only[Option.map_some]
     rw[Q.Pv q o (fun h=>e h.symm)]
   . rw[List.getElem?_eq_none (by simp;omega)];rfl
theorem Wk.same (K:Wk t n k m q nx gen ls N lf hd ct) (C':Zn t n k m q' nx' ZA ls') (h1:∀ o∈ls,o.own=true->o∈ls'/\∀ j,j<o.Z->q'.at o j=q.at o j) (h2:∀ o∈ls',o.own=true->o∈ls):Wk t n k m q' nx' ZA ls' N lf hd ct:=by
 have hc:∀ i,i<N->∀ o∈hd i :: ct i,o∈ls'/\∀ j,j<2->q'.at o j=q.at o j:=fun i hi o ho=>by
  obtain⟨a,b,c⟩:=(K.ch i hi).mem o ho
  obtain⟨d,e⟩:=h1 o a b
  exact⟨d,fun j hj=>e j (by omega)⟩
 exact⟨C',fun i hi=>(K.ch i hi).other (hc i hi),K.dj,fun o ho hw=>K.pl o (h2 o ho hw) hw,fun i hi x hx=>K.of i hi x ((Has.other fun o ho=>(hc i hi o ho).2 0 (by decide)).1 hx)⟩
theorem Tm.keys (K:Wk t n k m q nx gen ls N lf hd ct) (h1:∀ o∈ls,o.own=true->∀ j,j<o.Z->q'.at o j=q.at o j) (S:Tm q ls N hd ct os ks):∀ x,x∈ks↔∃ i,i<N/\Has q' (hd i :: ct i) x:=fun x=>by
 rw[S.km]
 refine exists_congr fun i=>and_congr_right fun hi=>?_
 refine(Has.other fun o ho=>?_).symm
 obtain⟨a,b,c⟩:=(K.ch i hi).mem o ho
 exact h1 o a b 0 (by omega)
theorem Tm.same (K:Wk t n k m q nx gen ls N lf hd ct) (S:Tm q ls N hd ct os ks) (h:∀ o∈ls,∀ j,j<o.Z->q'.at o j=q.at o j):Tm q' ls N hd ct os ks:=by
 refine⟨S.so,fun h' ws=>?_,S.sk,S.keys K (fun o ho _=>h o ho)⟩
 rw[S.om]
 refine exists_congr fun o=>and_congr_right fun ho=>?_
 rw[Q.XF (h o ho)]
theorem Tm.find (S:Tm q ls N hd ct os ks) {o:Ox} (ho:o∈ls) (hw:o.own=false):X3 o.h os=some (q.ws o):=(Xh S.so).2 ((S.om _ _).2 ⟨o,ho,hw,rfl,rfl⟩)
theorem Tm.JC (S:Tm q ls N hd ct os ks) {h:Int} (hd':∀ o∈ls,h=o.h->o.own≠false):X3 h os=none:=(NL S.so).2 fun u hu=>by
 obtain⟨o,ho,hw,e,-⟩:=(S.om _ _).1 hu
 exact hd' o ho e.symm hw
theorem Wk.act (K:Wk t n k m q nx gen ls N lf hd ct) (hn:n<=65535) (O:Out k X q nx gen ls E H V q' nx' ZA ls') (hX:X.own=false) (h1:1<=X.kd) (h5:X.kd<=5) (C':Zn t n k m q' nx' ZA ls') (ky:Int) (S:Tm q ls N hd ct os ks) :
 Wk t n k m q' nx' ZA ls' N lf hd ct/\∃ os',Xt X.kd X.sz X.ix X.vl X.ol ky X.nu E H V os ks=((os',ks),true)/\Tm q' ls' N hd ct os' ks:=by
 have C:=K.tm
 cases O with
 | size h hz=>exact⟨K.same C' (fun o ho _=>⟨ho,fun _ _=>rfl⟩) (fun o ho _=>ho),os,by unfold Xt;rw[if_pos h,if_pos hz];rfl,S⟩
 | empty h hz hF=>exact⟨K.same C' (fun o ho _=>⟨ho,fun _ _=>rfl⟩) (fun o ho _=>ho),os,by unfold Xt;rw[if_pos h,if_neg (by omega),if_pos (by decide)];rfl,S⟩
 | full h hz x F hF hk=>exact⟨K.same C' (fun o ho _=>⟨ho,fun _ _=>rfl⟩) (fun o ho _=>ho),os,by unfold Xt;rw[if_pos h,if_neg (by omega),if_pos (by decide)];rfl,S.same K (fun o ho j hj=>rfl)⟩
 | made h hz o q' nx' hZ ho hF hg h0 hk hn' =>
  have oN:o∉ls:=fun h'=>((List.pairwise_cons.1 C'.pw).1 o h').1 rfl
  have hwo:o.own=false:=ho.trans hX
  have hne:∀ o'∈ls,o'.h≠o.h:=fun o' ho' e=>oN (by rw[<- C'.one hn List.mem_cons_self (List.mem_cons_of_mem _ ho') e];exact ho')
  have b:=Ox.IB C' hn (o:=o) List.mem_cons_self
  have hz0:q'.ws o=List.replicate X.sz.toNat 0:=by
   rw[hZ]
   refine List.ext_getElem? fun i=>?_
   unfold Q.ws
   rw[List.getElem?_map,List.getElem?_replicate]
   by_cases hi:i<o.Z
   . rw[List.getElem?_range hi,if_pos (by omega)]
     have:=h0 (1+i) (by omega) (by omega)
     rw[<- Nat.add_assoc] at this
     exact congrArg some this
   . rw[List.getElem?_eq_none (by simp;omega),if_neg (by omega)];rfl
  refine⟨K.same C' (fun o' ho' _=>⟨List.mem_cons_of_mem _ ho',fun j hj=>hk.at ho' hj⟩) (fun o' ho' hw'=>?_),Yz o.h (List.replicate X.sz.toNat 0) false os,?_,WE S.so,fun h' ws=>?_,S.sk,S.keys K (fun o' ho' _ j hj=>hk.at ho' hj)⟩
  . rcases List.mem_cons.1 ho' with rfl | ho'
    . rw[hwo] at hw';cases hw'
    . exact ho'
  . unfold Xt
    rw[if_pos h,if_neg (by omega),if_neg (by decide)]
    have:X3 (Zc o.x o.g) os=none:=S.JC (h:=o.h) fun o' ho' e=>absurd e.symm (hne o' ho')
    rw[this]
    have hp:(0:Int)<Zc o.x o.g:=by show 0<o.h;omega
    rw[decide_eq_true hp];rfl
  . rw[WG S.so,S.om]
    constructor
    . rintro(⟨eh,ew⟩ | ⟨hne',o',ho',hw',e1,e2⟩)
      . exact⟨o,List.mem_cons_self,hwo,eh.symm,ew.trans hz0.symm⟩
      . exact⟨o',List.mem_cons_of_mem _ ho',hw',e1,by rw[e2,Q.XF (q:=q) fun j hj=>hk.at ho' hj]⟩
    . rintro⟨o',ho',hw',e1,e2⟩
      rcases List.mem_cons.1 ho' with rfl | ho'
      . exact Or.inl ⟨e1.symm,by rw[e2,hz0]⟩
      . exact Or.inr ⟨by rw[<- e1];exact hne o' ho',o',ho',hw',e1,by rw[e2,Q.XF (q:=q) fun j hj=>hk.at ho' hj]⟩
 | dead h hd' =>
  refine⟨K.same C' (fun o ho _=>⟨ho,fun _ _=>rfl⟩) (fun o ho _=>ho),os,?_,S⟩
  have f:X3 X.nu os=none:=S.JC fun o ho e=>by rw[<- hX];exact hd' o ho e
  unfold Xt
  rw[if_neg h,f]
  by_cases h2:X.kd=2
  . rw[if_pos h2];rfl
  . rw[if_neg h2,if_pos h5];rfl
 | gone h l1 o l2 e hh ho q' hF hk =>
  subst e
  have hwo:o.own=false:=ho.trans hX
  have hm:o∈l1 ++ o :: l2:=by simp
  have hap:∀ o',o'∈l1 ++ l2->o.apart o':=(List.pairwise_cons.1 ((List.pairwise_middle Ox.YN).1 C.pw)).1
  have mem:∀ x,x∈l1 ++ l2↔x∈l1 ++ o :: l2/\x≠o:=fun x=>by
   constructor
   . exact fun hx=>⟨by rcases List.mem_append.1 hx with h | h <;> simp[h],fun e'=>(hap x hx).1 (by rw[e'])⟩
   . rintro⟨hx,hne⟩
     rcases List.mem_append.1 hx with h' | h'
     . simp[h']
     . rcases List.mem_cons.1 h' with h' | h'
       . exact absurd h' hne
       . simp[h']
  have TY:∀ o':Ox,o'.own=true->o'≠o:=fun o' hw' e=>by rw[e,hwo] at hw';cases hw'
  refine⟨K.same C' (fun o' ho' hw'=>⟨(mem o').2 ⟨ho',TY o' hw'⟩,fun j hj=>hk.at ((mem o').2 ⟨ho',TY o' hw'⟩) hj⟩) (fun o' ho' _=>((mem o').1 ho').1),YS o.h os,?_,XM S.so,fun h' ws=>?_,S.sk,S.keys K (fun o' ho' hw' j hj=>hk.at ((mem o').2 ⟨ho',TY o' hw'⟩) hj)⟩
  . unfold Xt
    have hh':X.nu=o.h:=hh
    rw[if_neg (by omega),if_pos h,hh',S.find hm hwo];rfl
  . rw[Xc,S.om]
    constructor
    . rintro⟨hne,o',ho',hw',e1,e2⟩
      have hno:o'≠o:=fun e=>hne (by rw[<- e1,e])
      exact⟨o',(mem o').2 ⟨ho',hno⟩,hw',e1,by rw[e2,Q.XF (q:=q) fun j hj=>hk.at ((mem o').2 ⟨ho',hno⟩) hj]⟩
    . rintro⟨o',ho',hw',e1,e2⟩
      obtain⟨ho2,hno⟩:=(mem o').1 ho'
      exact⟨fun e=>hno (C.one hn hm ho2 (e1.trans e)),o',ho2,hw',e1,by rw[e2,Q.XF (q:=q) fun j hj=>hk.at ho' hj]⟩
 | index h o hm hh ho hi =>
  refine⟨K.same C' (fun o ho _=>⟨ho,fun _ _=>rfl⟩) (fun o ho _=>ho),os,?_,S⟩
  have hh':X.nu=o.h:=hh
  unfold Xt
  rw[if_neg (by omega),if_neg (by omega),if_pos h5,hh',S.find hm (ho.trans hX)]
  simp only[Q.Po]
  rw[if_pos (by omega)];rfl
 | read h o hm hh ho j hj hi hr =>
  refine⟨K.same C' (fun o ho _=>⟨ho,fun _ _=>rfl⟩) (fun o ho _=>ho),os,?_,S⟩
  have hh':X.nu=o.h:=hh
  unfold Xt
  rw[if_neg (by omega),if_neg (by omega),if_pos h5,hh',S.find hm (ho.trans hX)]
  simp only[Q.Po]
  rw[if_neg (by omega),if_pos hr,hj,Int.toNat_natCast,Q.LC hi]
  show _=((os,ks),true)
  unfold Q.at
  simp
 | other h o hm hh ho j hj hi hr hv =>
  refine⟨K.same C' (fun o ho _=>⟨ho,fun _ _=>rfl⟩) (fun o ho _=>ho),os,?_,S⟩
  have hh':X.nu=o.h:=hh
  unfold Xt
  rw[if_neg (by omega),if_neg (by omega),if_pos h5,hh',S.find hm (ho.trans hX)]
  simp only[Q.Po]
  rw[if_neg (by omega),if_neg (by omega),hj,Int.toNat_natCast,Q.LC hi,if_pos ⟨hr,hv⟩]
  show _=((os,ks),true)
  unfold Q.at
  simp
 | laid h o hm hh ho j hj hi hr hv =>
  have hwo:o.own=false:=ho.trans hX
  have hh':X.nu=o.h:=hh
  have TY:∀ o':Ox,o'.own=true->o'≠o:=fun o' hw' e=>by rw[e,hwo] at hw';cases hw'
  have QP:∀ o'∈ls,o'≠o->∀ i,i<o'.Z->(q.put o j X.vl).at o' i=q.at o' i:=fun o' ho' hne i hi'=>C.Yn hm ho' hne hi hi' _
  refine⟨K.same C' (fun o' ho' hw'=>⟨ho',QP o' ho' (TY o' hw')⟩) (fun o' ho' _=>ho'),Yz o.h ((q.ws o).set j X.vl) false os,?_,WE S.so,fun h' ws=>?_,S.sk,S.keys K (fun o' ho' hw'=>QP o' ho' (TY o' hw'))⟩
  . unfold Xt
    rw[if_neg (by omega),if_neg (by omega),if_pos h5,hh',S.find hm hwo]
    simp only[Q.Po]
    rw[if_neg (by omega),if_neg hr,hj,Int.toNat_natCast,Q.LC hi,if_neg (fun h'=>h'.2 (hv h'.1))]
    unfold Q.at
    simp
  . rw[WG S.so,S.om]
    show _↔∃ o'∈ls,o'.own=false/\o'.h=h'/\ws=(q.put o j X.vl).ws o'
    constructor
    . rintro(⟨eh,ew⟩ | ⟨hne,o',ho',hw',e1,e2⟩)
      . exact⟨o,hm,hwo,eh.symm,ew.trans (Q.Ff _).symm⟩
      . have hno:o'≠o:=fun e=>hne (by rw[<- e1,e])
        exact⟨o',ho',hw',e1,by rw[e2,Q.XF (q:=q) (QP o' ho' hno)]⟩
    . rintro⟨o',ho',hw',e1,e2⟩
      by_cases e:o'=o
      . subst e
        exact Or.inl ⟨e1.symm,by rw[e2,Q.Ff]⟩
      . exact Or.inr ⟨fun e'=>e (C.one hn hm ho' (e1.trans e')),o',ho',hw',e1,by rw[e2,Q.XF (q:=q) (QP o' ho' e)]⟩
theorem Wk.list (K:Wk t n k m q nx gen ls N lf hd ct) {i:Nat} (hi:i<N) {kd ky v:Int} {ch:List Ox} (T:TG q ls (hd i :: ct i) kd ky E v q' ls' ch) (C':Zn t n k m q' nx' ZA ls') (hlf:lf ky=i) (hkd:1<=kd/\kd<=3) (S:Tm q ls N hd ct os ks) (sz ix vl ol h H:Int) :
 Wk t n k m q' nx' ZA ls' N lf hd (upd ct i ch.tail)/\∃ ks',Xt (kd+5) sz ix vl ol ky h E H v os ks=((os,ks'),true)/\Tm q' ls' N hd (upd ct i ch.tail) os ks':=by
 have ech:ch=hd i :: ch.tail:=by
  have:=T.hd
  cases ch with
  | nil=>cases this
  | cons a l=>cases this;rfl
 have ci:hd i :: upd ct i ch.tail i=ch:=by rw[upd_same];exact ech.symm
 have ca:∀ a,a≠i->hd a :: upd ct i ch.tail a=hd a :: ct a:=fun a ha=>by rw[ZX _ _ _ _ ha]
 have QP:∀ a,a<N->a≠i->∀ o∈hd a :: ct a,o∈ls'/\∀ j,j<2->q'.at o j=q.at o j:=fun a ha hne o ho=>by
  obtain⟨h1,h2,h3⟩:=(K.ch a ha).mem o ho
  obtain⟨h4,h5⟩:=T.ot o h1 (K.dj a i ha hi hne o ho)
  exact⟨h4,fun j hj=>h5 j (by omega)⟩
 have zk:∀ o∈ch,o.own=true:=fun o ho=>(T.cn.mem o ho).2.1
 have Fe:∀ o∈hd i :: ct i,o.own=true:=fun o ho=>((K.ch i hi).mem o ho).2.1
 have zi:∀ a,a<N->a≠i->∀ x,(Has q' (hd a :: ct a) x↔Has q (hd a :: ct a) x):=fun a ha hne x=>Has.other fun o ho=>(QP a ha hne o ho).2 0 (by decide)
 have bit:ky∈ks↔Has q (hd i :: ct i) ky:=by
  rw[S.km]
  constructor
  . rintro⟨a,ha,hh⟩
    have e:=K.of a ha ky hh
    rw[hlf] at e
    rw[e];exact hh
  . exact fun hh=>⟨i,hi,hh⟩
 have wk:Wk t n k m q' nx' ZA ls' N lf hd (upd ct i ch.tail):=by
  refine⟨C',fun a ha=>?_,fun a c ha hc hne o ho=>?_,fun o ho hw=>?_,fun a ha x hx=>?_⟩
  . by_cases e:a=i
    . rw[e,ci];exact T.cn
    . rw[ca a e];exact(K.ch a ha).other (QP a ha e)
  . by_cases e1:a=i
    . subst e1
      rw[ci] at ho
      rw[ca c (Ne.symm hne)]
      intro hc'
      rcases T.sb o ho with h1 | h1
      . exact K.dj a c ha hc hne o h1 hc'
      . exact h1 ((K.ch c hc).mem o hc').1
    . rw[ca a e1] at ho
      by_cases e2:c=i
      . subst e2
        rw[ci]
        intro hc'
        rcases T.sb o hc' with h1 | h1
        . exact K.dj a c ha hc hne o ho h1
        . exact h1 ((K.ch a ha).mem o ho).1
      . rw[ca c e2];exact K.dj a c ha hc hne o ho
  . rcases T.nw o ho with h1 | h1
    . obtain⟨a,ha,hm⟩:=K.pl o h1 hw
      by_cases e:a=i
      . exact⟨i,hi,by rw[ci];exact T.kp o ho (e ▸ hm)⟩
      . exact⟨a,ha,by rw[ca a e];exact hm⟩
    . exact⟨i,hi,by rw[ci];exact h1⟩
  . by_cases e:a=i
    . subst e
      rw[ci,T.ks] at hx
      by_cases hc:E=0/\kd≠1/\x=ky
      . rw[hc.2.2];exact hlf
      . rw[if_neg hc] at hx;exact K.of a ha x hx
    . rw[ca a e] at hx
      exact K.of a ha x ((zi a ha e x).1 hx)
 have key:∀ ks':List Int,ks'.Pairwise (·<·)->(∀ x,x∈ks'↔if E=0/\kd≠1/\x=ky then kd=2 else x∈ks)->Tm q' ls' N hd (upd ct i ch.tail) os ks':=fun ks' hs hk=>by
  refine⟨S.so,fun h' ws=>?_,hs,fun x=>?_⟩
  . rw[S.om]
    constructor
    . rintro⟨o,ho,hw,e1,e2⟩
      obtain⟨h4,h5⟩:=T.ot o ho (fun h'=>by rw[Fe o h'] at hw;cases hw)
      exact⟨o,h4,hw,e1,by rw[e2,Q.XF h5]⟩
    . rintro⟨o,ho,hw,e1,e2⟩
      have ho0:o∈ls:=(T.nw o ho).resolve_right fun h'=>by rw[zk o h'] at hw;cases hw
      obtain⟨h4,h5⟩:=T.ot o ho0 (fun h'=>by rw[Fe o h'] at hw;cases hw)
      exact⟨o,ho0,hw,e1,by rw[e2,Q.XF h5]⟩
  . rw[hk]
    by_cases hc:E=0/\kd≠1/\x=ky
    . rw[if_pos hc]
      constructor
      . exact fun h2=>⟨i,hi,by rw[ci,T.ks,if_pos hc];exact h2⟩
      . rintro⟨a,ha,hh⟩
        by_cases e:a=i
        . rw[e,ci,T.ks,if_pos hc] at hh;exact hh
        . rw[ca a e,zi a ha e,hc.2.2] at hh
          exact absurd ((K.of a ha ky hh).symm.trans hlf) e
    . rw[if_neg hc,S.km]
      refine exists_congr fun a=>and_congr_right fun ha=>?_
      by_cases e:a=i
      . rw[e,ci,T.ks,if_neg hc]
      . rw[ca a e];exact(zi a ha e x).symm
 refine⟨wk,?_⟩
 by_cases k1:kd=1
 . have hE:E=0:=Classical.byContradiction fun hE=>by have:=(T.er hE).2.1;omega
   refine⟨ks,?_,key ks S.sk fun x=>by rw[if_neg (fun h'=>h'.2.1 k1)]⟩
   have hv:v=if ky∈ks then 1 else 0:=by
    rcases T.vl hE with⟨h1,h2⟩ | ⟨h1,h2⟩
    . rw[if_pos (bit.2 (h2.2 (by omega)))];exact h1
    . rw[if_neg (fun h'=>h2 (iff_of_true (bit.1 h') (by omega)))];exact h1
   unfold Xt
   rw[if_neg (by omega),if_neg (by omega),if_neg (by omega),if_pos (by omega),decide_eq_true hE,decide_eq_true hv];rfl
 . by_cases k2:kd=2
   . by_cases hE:E=0
     . refine⟨Xi ky false ks,?_,key _ (TF S.sk) fun x=>?_⟩
       . have hv:v=1 - if ky∈ks then 1 else 0:=by
          rcases T.vl hE with⟨h1,h2⟩ | ⟨h1,h2⟩
          . rw[if_neg (fun h'=>h2.1 (bit.1 h') k2)];omega
          . rw[if_pos (Classical.byContradiction fun h'=>h2 (iff_of_false (fun h3=>h' (bit.2 h3)) (fun h3=>h3 k2)))];omega
         unfold Xt
         rw[if_neg (by omega),if_neg (by omega),if_neg (by omega),if_neg (by omega),if_pos (by omega),if_neg (fun h'=>h' hE),decide_eq_true hv]
       . rw[TZ S.sk]
         by_cases hx:x=ky
         . rw[if_pos ⟨hE,k1,hx⟩];exact iff_of_true (Or.inl hx) k2
         . rw[if_neg (fun h'=>hx h'.2.2)];exact⟨fun h'=>h'.resolve_left hx,Or.inr⟩
     . refine⟨ks,?_,key ks S.sk fun x=>by rw[if_neg (fun h'=>hE h'.1)]⟩
       unfold Xt
       rw[if_neg (by omega),if_neg (by omega),if_neg (by omega),if_neg (by omega),if_pos (by omega),if_pos hE]
       rcases (T.er hE).1 with h' | h'
       . rw[decide_eq_true h'];rfl
       . rw[decide_eq_true h',Bool.or_true]
   . have hE:E=0:=Classical.byContradiction fun hE=>k2 (T.er hE).2.1
     refine⟨ks.filter fun a=>decide (a≠ky),?_,key _ (List.Pairwise.filter _ S.sk) fun x=>?_⟩
     . have hv:v=if ky∈ks then 1 else 0:=by
        rcases T.vl hE with⟨h1,h2⟩ | ⟨h1,h2⟩
        . rw[if_pos (bit.2 (h2.2 k2))];exact h1
        . rw[if_neg (fun h'=>h2 (iff_of_true (bit.1 h') k2))];exact h1
       unfold Xt
       rw[if_neg (by omega),if_neg (by omega),if_neg (by omega),if_neg (by omega),if_neg (by omega),decide_eq_true hE,decide_eq_true hv];rfl
     . rw[List.mem_filter]
       by_cases hx:x=ky
       . rw[if_pos ⟨hE,k1,hx⟩];exact iff_of_false (fun h'=>by simp[hx] at h') k2
       . rw[if_neg (fun h'=>hx h'.2.2)];simp[hx]
end
end
section
section
variable {t n k m nx nx':Nat} {q q':Q} {gen ZA:Nat->Nat} {ls ls':List Ox} {X:Xa} {E H V:Int} {N:Nat} {lf:Int->Nat} {hd:Nat->Ox} {ct:Nat->List Ox} {os:Os} {ks:List Int} {L:Loc} {w:World} {s:Mm} {σ G:Nat} {who:Nat}
theorem Out.zo (C:Zn t n k m q nx gen ls) (O:Out k X q nx gen ls E H V q' nx' ZA ls'):∀ x,ZA x<=gen x+1:=by
 cases O with
 | gone h l1 o l2 e hh ho q' hF hk =>
  intro x
  show (if x=o.x then o.g+1 else gen x)<=_
  have:=C.gn o (by rw[e];simp)
  split
  . rename_i ex;rw[ex,this];exact Nat.le_refl _
  . exact Nat.le_succ _
 | _=>exact fun x=>Nat.le_succ _
theorem Wk.IA (K:Wk t n k 40 q nx gen ls N lf hd ct) (F:Fm t n k L w s σ q nx gen ls) (S:Tm q ls N hd ct os ks) (hG:Good t n k 40 100 600 3) (hn:n<=65535) (hg:∀ x,gen x<=G) (hx:nx<=G) (hk4:4<=k) (hG':G<100) (X:Xa) (hX:X.own=false) (hm:X.may=true) (hz:Fit X.sz) (hu:Wd X.nu) (ky:Int) :
 ∃ E H V q' nx' ZA ls' M os',M<=cst k X/\Wk t n k 40 q' nx' ZA ls' N lf hd ct/\X8 n q' ls'/\(∀ x,ZA x<=G+1)/\nx'<=G+1/\Xt X.kd X.sz X.ix X.vl X.ol ky X.nu E H V os ks=((os',ks),true)/\Tm q' ls' N hd ct os' ks/\(X.kd≠1->H=0)/\(H≠0->E=0)/\(X.kd=1->0<=ZR X.sz->E≠0->Ry q) /\
  ∀ w1,Z8 w1 L s->Calls Tryz.prog 54 #[X.v] w1 fun e w'=>∃ B:Bk,e=.returned (.tuple #[pP B.A 0,iV 0])/\Below w1.heap.size w1 w'/\(∀ x,B.has x->w1.heap.size<=x/\x<w'.heap.size)/\RD t n k who L B M E H V q' w' σ:=by
 obtain⟨E,H,V,q',nx',ZA,ls',M,O,C',cv',hM,hnew⟩:=F.act (who:=who) hG X hm hz hu (fun o ho=>by rw[<- F.tm.gn o ho];have:=hg o.x;omega)
 have hm':=hm
 unfold Xa.may at hm'
 simp only[Bool.and_eq_true,decide_eq_true_eq,fitsV] at hm'
 obtain⟨⟨⟨h1,h5⟩,-⟩,-⟩:=hm'
 obtain⟨K',os',e,S'⟩:=K.act hn O hX h1 h5 C' ky S
 have gb:=O.zo K.tm
 refine⟨E,H,V,q',nx',ZA,ls',M,os',hM,K',cv',fun x=>Nat.le_trans (gb x) (Nat.succ_le_succ (hg x)),Nat.le_trans O.AQ (Nat.succ_le_succ hx),e,S',?_,?_,fun a1 a2 a3=>?_,hnew⟩
 . intro h
   cases O with
   | made h1=>exact absurd h1 h
   | _=>rfl
 . intro h
   cases O with
   | made=>rfl
   | _=>exact absurd rfl h
 . obtain⟨-,-,⟨-,-,-,-,hT⟩ | ⟨e0,-⟩⟩:=O.make (Z:=X.sz.toNat) a1 (by unfold ZR at a2;omega) a2
   . exact F.tm.tight hk4 hT
   . exact absurd e0 a3
theorem wQ.wk {i:Nat} {kd ky:Int} {b:Nat} {W0:World} (O:wQ t n k L q ls G (hd i) (ct i) kd ky b W0 w σ) (K:Wk t n k 40 q nx gen ls N lf hd ct) (hi:i<N) (hlf:lf ky=i) (hkd:1<=kd/\kd<=3) (S:Tm q ls N hd ct os ks) (sz ix vl ol h H:Int) :
 ∃ R s' q' nx' ZA ls' uZ ks',Fm t n k L w s' σ q' nx' ZA ls'/\(∀ x,ZA x<=G+1)/\nx'<=G+1/\Only (fun x=>L.has x\/x=b) W0 w/\ZJ w b (.pointer none) R/\R.kd≠0/\R.nx=13/\R.cH=0/\(R.cE≠0->Ry q)/\Wk t n k 40 q' nx' ZA ls' N lf hd uZ/\Xt (kd+5) sz ix vl ol ky h R.cE H R.cV os ks=((os,ks'),true)/\Tm q' ls' N hd uZ os ks':=by
 obtain⟨R,s',q',nx',ZA,ls',F,Ve,hx,on,lr,k0,hnx,hH,-,ch,T⟩:=O
 obtain⟨K',ks',e,S'⟩:=K.list hi T F.tm hlf hkd S sz ix vl ol h H
 exact⟨R,s',q',nx',ZA,ls',_,ks',F,Ve,hx,on,lr,k0,hnx,hH,fun h=>(T.er h).2.2,K',e,S'⟩
end
end
end Go.Proofs.YtgehjolndmgffaaGreat
