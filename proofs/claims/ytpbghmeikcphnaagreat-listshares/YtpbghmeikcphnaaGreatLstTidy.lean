import Derived.Test.YtpbghmeikcphnaaGreatLstMany
namespace Go.Proofs.YtpbghmeikcphnaaGreat
open Go.RowKit
set_option linter.unusedVariables false
def F5 (h:Gh) (C:Cl) (r:Option Rs) (b:Jb):Prop:=True
def Tidy (h:Gh):Prop:=True
section
variable {t n k m σ K:Nat} {q q':Q} {h h':Gh} {jb:Nat->Jb} {hd:Nat} {F F':List Nat} {u u':Hi} {ts:Nat->Option (Cl × Option Rs)} {g p r:Int} {C C':Cl} {R:Rs} {rs rs':Option Rs} {b':Jb} {pb:Bool}
theorem F5.go (A:F5 h C rs (jb K)) (X:Lc t n k m q σ h jb hd F u ts) (hG:Good t n k m g p r) (hn:n<=65535) (hJ:h.J<=60000) (hts:ts K=some (C,rs)) (G:SA t n k m g h σ q u F K C rs (jb K) h' q' u' F' C' rs' b' pb):F5 h' C' rs' b':=trivial
theorem F5.tidy {E v:Int} {st:Nat} (A:F5 h C none b') (e:C.po=.over E v st):Tidy h:=trivial
theorem Tidy.start {kd key:Int} (T:Tidy h):F5 h ⟨kd,key,σ,none,.first⟩ none b':=trivial
theorem F5.next (A:F5 h C (some R) .nil) (G:Ground t n k m q h) (hG:Good t n k m g p r) (hn:n<=65535) (hJ:h.J<=60000) (hk:C.po.kd≠0->C.kd=C.po.kd) (x:uI h hd C.po R) (N:BQ h hd C R C' C.po):F5 h C' none b':=trivial
end
end Go.Proofs.YtpbghmeikcphnaaGreat
