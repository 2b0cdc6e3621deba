import Derived.Test.YtpbghmeikcphnaaGreatDropGo
namespace Go.Proofs.YtpbghmeikcphnaaGreat
open Go.RowKit
theorem eval_put_ne {a:Act} {d:Option Tmp} {v:Value} {t:Tmp} (h:d≠some t):(a.put d v).eval (.tmp t)=a.eval (.tmp t):=by
 cases d with
 | none=>rfl
 | some x =>
  have hx:x≠t:=fun e=>h (by rw[e])
  simp[Act.put,Act.eval,Array.getElem?_setIfInBounds_ne hx]
theorem eval_put_same {a:Act} {v:Value} {t:Tmp} (h:t<a.tmps.size):(a.put (some t) v).eval (.tmp t)=v:=by
 simp[Act.put,Act.eval,h]
section
variable {P:Program} {ops:Array Oper} {Q:Exit->Act->World->Prop} {R:World->World->Prop}
variable {G:World->World->Prop} {Φ:Nat->World->Prop} {ws:List Nat}
end
end Go.Proofs.YtpbghmeikcphnaaGreat
