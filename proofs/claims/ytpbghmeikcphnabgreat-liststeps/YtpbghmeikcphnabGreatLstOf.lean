import Derived.Test.YtpbghmeikcphnabGreatLayRef
import Derived.Test.YtpbghmeikcphnabGreatLayEnv
namespace Go.Proofs.YtpbghmeikcphnabGreat
open Go.RowKit
theorem AY (a:Int):∃ x:Int,(∀ w:World,
 Calls Tryz.prog 11 #[.agg #[iV 4,iV 30,iV 12,iV 40,iV 100,iV 600,iV 3],iV a] w fun e w'=>e=.returned (iV x)/\Below w.heap.size w w')/\(a<106->x<0):=by
 have hA:Yy (4:Int) 30 12 40:=by constructor <;> decide
 by_cases h:a<6+4+30 * 2+12 * 3
 . exact⟨_,fun w=>I7 4 30 12 40 100 600 3 a w hA h,fun _=>by decide⟩
 have hno:∀ {x:Int},a<106->x<0:=fun {x} h'=>by omega
 by_cases hb:a<=9223372036854775807
 . by_cases h2:(a - (6+4+30 * 2+12 * 3)) / 40<12
   . exact⟨_,fun w=>EL 4 30 12 40 100 600 3 a _ w hA (by decide) (by omega) hb rfl h2,hno⟩
   . exact⟨_,fun w=>NG 4 30 12 40 100 600 3 a _ w hA (by decide) (by omega) hb rfl (by omega),hno⟩
 have h1:¬ a<106:=by omega
 obtain⟨d,hd⟩:∃ d,wrap64 (a - 106)=d:=⟨_,rfl⟩
 obtain⟨q,hq⟩:∃ q,wrap64 (d.tdiv 40)=q:=⟨_,rfl⟩
 clear h hb
 by_cases h2:q<0
 . refine⟨-1,fun w=>?_,hno⟩
   clear hno
   go_enter Tryz.func11,Tryz.ntmps11
   go_wp2_with (go_at_call 25;refine(Yg _ _ _ _ _ _ _ 0 0 _ hA (by simp) (by omega) (by omega)).mono ?_;rintro e w1 ⟨rfl,b1⟩;have hc:=XX.new.grown b1;have e2:=hc.c2;have e3:=hc.c3)
   go_ret
   exact⟨rfl,grow (Z5 (Below.refl _ _) _) b1⟩
 by_cases h3:q<12
 . refine⟨q,fun w=>?_,hno⟩
   clear hno
   go_enter Tryz.func11,Tryz.ntmps11
   go_wp2_with (go_at_call 25;refine(Yg _ _ _ _ _ _ _ 0 0 _ hA (by simp) (by omega) (by omega)).mono ?_;rintro e w1 ⟨rfl,b1⟩;have hc:=XX.new.grown b1;have e2:=hc.c2;have e3:=hc.c3)
   go_ret
   exact⟨rfl,grow (Z5 (Below.refl _ _) _) b1⟩
 . refine⟨-1,fun w=>?_,hno⟩
   clear hno
   go_enter Tryz.func11,Tryz.ntmps11
   go_wp2_with (go_at_call 25;refine(Yg _ _ _ _ _ _ _ 0 0 _ hA (by simp) (by omega) (by omega)).mono ?_;rintro e w1 ⟨rfl,b1⟩;have hc:=XX.new.grown b1;have e2:=hc.c2;have e3:=hc.c3)
   go_ret
   exact⟨rfl,grow (Z5 (Below.refl _ _) _) b1⟩
theorem TQ {w:World} {L:Loc} {s:Mm} (h:Z8 w L s) (c0 c1 c2 c3 c4 c5 c6 who x:Int) (hx:s.steps=x) :
 Calls Tryz.prog 10 #[eV c0 c1 c2 c3 c4 c5 c6 L.p who] w fun e w'=>e=.returned (iV x)/\Below w.heap.size w w':=by
 subst hx;exact NJ h _ _ _ _ _ _ _ _
theorem OQ {w:World} {L:Loc} {s:Mm} (h:Z8 w L s) (a b:Int) (c:Bool) (ha:s.la=a) (hb:s.lw=b) (hc:s.lc=c) :
 Calls Tryz.prog 12 #[pP L.p 0] w fun e w'=>e=.returned (.agg #[iV a,iV b,.bool c])/\Below w.heap.size w w':=by
 subst ha hb hc;exact last_any h
end Go.Proofs.YtpbghmeikcphnabGreat
