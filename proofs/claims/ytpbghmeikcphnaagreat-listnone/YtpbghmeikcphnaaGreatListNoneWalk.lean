import Derived.Test.YtpbghmeikcphnaaGreatLstAwake
import Derived.Test.YtpbghmeikcphnaaGreatLstBad
namespace Go.Proofs.YtpbghmeikcphnaaGreat
open Go.RowKit
set_option maxRecDepth 20000
theorem Xl (c0 c1 c2 c3 c4 c5 c6 who : Int) (P : Nat) (w : World) : Calls Tryz.prog 15 #[.pointer none,.agg #[.int .i64 c0,.int .i64 c1,.int .i64 c2,.int .i64 c3,.int .i64 c4,.int .i64 c5,.int .i64 c6,.pointer (some ⟨P,0,none⟩),.int .i64 who]] w fun e w'=>e = .returned (.bool true) /\ Below w.heap.size w w':=by
 go_enter Tryz.func15,Tryz.ntmps15
 go_wp2_with (go_at_call 31;refine (Nv _).mono ?_;rintro e w1 ⟨rfl,rfl⟩)
 go_ret
 exact ⟨rfl,Z7 (Below.refl _ _) _⟩
set_option maxRecDepth 20000 in
set_option maxHeartbeats 4000000 in
theorem OL (kd ky hd : Int) (h0 : 0 <= hd) (h9 : hd <= 18446744073709551615) (w : World) : Calls Tryz.prog 7 #[.int .i64 kd,.int .i64 ky,.int .u64 hd] w fun e w'=>e = .returned (.bool true) /\ Below w.heap.size w w':=by
 have bg:=fun w=>PN (n:=4) (by decide) (by decide) w
 have ff : ∀ (a1 a2 a3 a4 : Value) (w : World),(Instr.field 37 (.agg #[a1,a2,a3,a4]) 0).run Tryz.prog w = .ok a1 w:=fun a1 a2 a3 a4 w=>by kernel_rfl
 have HW : Hid (Wd hd):=⟨h0,h9⟩
 clear h0 h9
 by_cases h1 : (1 : Int) <= kd
 · by_cases h2 : kd <= 3
   · by_cases h3 : (0 : Int) <= ky
     · by_cases h4 : ky < 1073741824
       · have hm : Xu kd ky = true:=by simp [Xu,h1,h2,h3,h4]
         have hck:=fun w=>Yg kd ky w
         rw [hm] at hck
         have ry:=fun w=>Nu kd ky hd hm w
         clear hm
         by_cases he : hd = 65536
         · replace he : (hd == 65536) = true:=by simpa using he
           go_enter Tryz.func7,Tryz.ntmps7
           go_wp2_with (first
            | (go_at_call 13;refine (ry _).mono ?_;rintro e w1 ⟨bN,rfl,-,b1,-⟩)
            | (go_at_call 9;refine (bg _).mono ?_;rintro e w2 ⟨L,s,σ,F0,rfl,R0,b2,l2,hσ,-⟩;have HR : Hid (Rest 4 4 L 0 97 1 w2 s σ (qH 4 4 12 40 F0) (fun _=>0) (I9 4 4 12 40) (fun _=>.nil) 0 [0] EI (fun _=>none)):=R0 0 97 (by decide);clear R0;have vN:=(ZU.new (w:=w2) (P:=L.p) (c0:=4) (c1:=4) (c2:=12) (c3:=40) (c4:=100) (c5:=600) (c6:=3) (who:=0) (T:=27)))
            | (go_at_call 10;refine (XW _).mono ?_;rintro e w3 ⟨rfl,b3⟩;have v3:=vN.grown b3;obtain ⟨y0,y1,y2,y3,y4,y5,y6,y7,y8⟩:=id v3)
            | (go_at_call 21;refine (hck _).mono ?_;rintro e w4 ⟨rfl,rfl⟩)
            | (go_at_call 15;refine (Xl _ _ _ _ _ _ _ _ _ _).mono ?_;rintro e w5 ⟨rfl,b5⟩)
            | (go_at_call 16;refine (Xk _).mono ?_;rintro e w6 ⟨rfl,b6⟩;have v6:=(v3.grown b5).grown b6;obtain ⟨z0,z1,z2,z3,z4,z5,z6,z7,z8⟩:=id v6))
           go_ret
           exact ⟨rfl,grow (grow (grow (Z7 (grow b1 b2) _) b3) b5) b6⟩
         · have HA : Hid (∀ (L : Loc) (s : Mm) (σ : Nat) (F0 : List Nat) (w2 w6 : World),Rest 4 4 L 0 97 1 w2 s σ (qH 4 4 12 40 F0) (fun _=>0) (I9 4 4 12 40) (fun _=>.nil) 0 [0] EI (fun _=>none) -> Below w2.heap.size w2 w6 -> σ <= 600 -> Calls Tryz.prog 11 #[.agg #[.int .i64 4,.int .i64 4,.int .i64 12,.int .i64 40,.int .i64 100,.int .i64 600,.int .i64 3,.pointer (some ⟨L.p,0,none⟩),.int .i64 0],.int .u64 hd,.int .i64 kd,.int .i64 ky] w6 fun e w'=>∃ Hh V St : Int,e = .returned (.agg #[.int .i64 3,.int .u64 Hh,.int .i64 V,.int .i64 St]) /\ Only L.has w6 w'):=fun L s σ F0 w2 w6 R g hσ=>Bg (n:=4) ⟨R.mm.below g,R.vl,R.lc,R.nn,R.room,R.hJ,R.pn⟩ (by decide) (by decide) hσ (by omega) h3 h4 HW.out he
           replace he : (hd == 65536) = false:=by simpa using he
           go_enter Tryz.func7,Tryz.ntmps7
           go_wp2_with (first
            | (go_at_call 13;refine (ry _).mono ?_;rintro e w1 ⟨bN,rfl,-,b1,-⟩)
            | (go_at_call 9;refine (bg _).mono ?_;rintro e w2 ⟨L,s,σ,F0,rfl,R0,b2,l2,hσ,-⟩;have HR : Hid (Rest 4 4 L 0 97 1 w2 s σ (qH 4 4 12 40 F0) (fun _=>0) (I9 4 4 12 40) (fun _=>.nil) 0 [0] EI (fun _=>none)):=R0 0 97 (by decide);clear R0;have vN:=(ZU.new (w:=w2) (P:=L.p) (c0:=4) (c1:=4) (c2:=12) (c3:=40) (c4:=100) (c5:=600) (c6:=3) (who:=0) (T:=27)))
            | (go_at_call 10;refine (XW _).mono ?_;rintro e w3 ⟨rfl,b3⟩;have v3:=vN.grown b3;obtain ⟨y0,y1,y2,y3,y4,y5,y6,y7,y8⟩:=id v3)
            | (go_at_call 21;refine (hck _).mono ?_;rintro e w4 ⟨rfl,rfl⟩)
            | (go_at_call 15;refine (Xl _ _ _ _ _ _ _ _ _ _).mono ?_;rintro e w5 ⟨rfl,b5⟩)
            | (go_at_call 16;refine (Xk _).mono ?_;rintro e w6 ⟨rfl,b6⟩;have v6:=(v3.grown b5).grown b6;obtain ⟨z0,z1,z2,z3,z4,z5,z6,z7,z8⟩:=id v6)
            | (go_at_call 11;refine (HA.out L s σ F0 w2 _ HR.out (grow (grow (grow (ZY _ _) b3) b5) b6) hσ).mono ?_;rintro e w7 ⟨Hh,V,St,rfl,o7⟩))
           go_ret
           exact ⟨rfl,PQ (grow (grow (grow (Z7 (grow b1 b2) _) b3) b5) b6) o7 (fun x hx=>Nat.le_trans b1.size (l2 x hx))⟩
       · have hm : Xu kd ky = false:=by rw [Xu,decide_eq_false h4,Bool.and_false]
         have hck:=fun w=>Yg kd ky w
         rw [hm] at hck
         have hnb:=fun w=>TL kd ky hd hm w
         clear hm
         go_enter Tryz.func7,Tryz.ntmps7
         go_wp2_with (first
          | (go_at_call 13;refine (hnb _).mono ?_;rintro e w1 ⟨rfl,rfl⟩)
          | (go_at_call 9;refine (bg _).mono ?_;rintro e w2 ⟨L,s,σ,F0,rfl,R0,b2,l2,hσ,-⟩;have HR : Hid (Rest 4 4 L 0 97 1 w2 s σ (qH 4 4 12 40 F0) (fun _=>0) (I9 4 4 12 40) (fun _=>.nil) 0 [0] EI (fun _=>none)):=R0 0 97 (by decide);clear R0;have vN:=(ZU.new (w:=w2) (P:=L.p) (c0:=4) (c1:=4) (c2:=12) (c3:=40) (c4:=100) (c5:=600) (c6:=3) (who:=0) (T:=27)))
          | (go_at_call 10;refine (XW _).mono ?_;rintro e w3 ⟨rfl,b3⟩;have v3:=vN.grown b3;obtain ⟨y0,y1,y2,y3,y4,y5,y6,y7,y8⟩:=id v3)
          | (go_at_call 21;refine (hck _).mono ?_;rintro e w4 ⟨rfl,rfl⟩)
          | (go_at_call 15;refine (Xl _ _ _ _ _ _ _ _ _ _).mono ?_;rintro e w5 ⟨rfl,b5⟩)
          | (go_at_call 16;refine (Xk _).mono ?_;rintro e w6 ⟨rfl,b6⟩;have v6:=(v3.grown b5).grown b6;obtain ⟨z0,z1,z2,z3,z4,z5,z6,z7,z8⟩:=id v6))
         go_ret
         exact ⟨rfl,grow (grow (grow (Z7 b2 _) b3) b5) b6⟩
     · have hm : Xu kd ky = false:=by rw [Xu,decide_eq_false h3,Bool.and_false,Bool.false_and]
       have hck:=fun w=>Yg kd ky w
       rw [hm] at hck
       have hnb:=fun w=>TL kd ky hd hm w
       clear hm
       go_enter Tryz.func7,Tryz.ntmps7
       go_wp2_with (first
        | (go_at_call 13;refine (hnb _).mono ?_;rintro e w1 ⟨rfl,rfl⟩)
        | (go_at_call 9;refine (bg _).mono ?_;rintro e w2 ⟨L,s,σ,F0,rfl,R0,b2,l2,hσ,-⟩;have HR : Hid (Rest 4 4 L 0 97 1 w2 s σ (qH 4 4 12 40 F0) (fun _=>0) (I9 4 4 12 40) (fun _=>.nil) 0 [0] EI (fun _=>none)):=R0 0 97 (by decide);clear R0;have vN:=(ZU.new (w:=w2) (P:=L.p) (c0:=4) (c1:=4) (c2:=12) (c3:=40) (c4:=100) (c5:=600) (c6:=3) (who:=0) (T:=27)))
        | (go_at_call 10;refine (XW _).mono ?_;rintro e w3 ⟨rfl,b3⟩;have v3:=vN.grown b3;obtain ⟨y0,y1,y2,y3,y4,y5,y6,y7,y8⟩:=id v3)
        | (go_at_call 21;refine (hck _).mono ?_;rintro e w4 ⟨rfl,rfl⟩)
        | (go_at_call 15;refine (Xl _ _ _ _ _ _ _ _ _ _).mono ?_;rintro e w5 ⟨rfl,b5⟩)
        | (go_at_call 16;refine (Xk _).mono ?_;rintro e w6 ⟨rfl,b6⟩;have v6:=(v3.grown b5).grown b6;obtain ⟨z0,z1,z2,z3,z4,z5,z6,z7,z8⟩:=id v6))
       go_ret
       exact ⟨rfl,grow (grow (grow (Z7 b2 _) b3) b5) b6⟩
   · have hm : Xu kd ky = false:=by rw [Xu,decide_eq_false h2,Bool.and_false,Bool.false_and,Bool.false_and]
     have hck:=fun w=>Yg kd ky w
     rw [hm] at hck
     have hnb:=fun w=>TL kd ky hd hm w
     clear hm
     go_enter Tryz.func7,Tryz.ntmps7
     go_wp2_with (first
      | (go_at_call 13;refine (hnb _).mono ?_;rintro e w1 ⟨rfl,rfl⟩)
      | (go_at_call 9;refine (bg _).mono ?_;rintro e w2 ⟨L,s,σ,F0,rfl,R0,b2,l2,hσ,-⟩;have HR : Hid (Rest 4 4 L 0 97 1 w2 s σ (qH 4 4 12 40 F0) (fun _=>0) (I9 4 4 12 40) (fun _=>.nil) 0 [0] EI (fun _=>none)):=R0 0 97 (by decide);clear R0;have vN:=(ZU.new (w:=w2) (P:=L.p) (c0:=4) (c1:=4) (c2:=12) (c3:=40) (c4:=100) (c5:=600) (c6:=3) (who:=0) (T:=27)))
      | (go_at_call 10;refine (XW _).mono ?_;rintro e w3 ⟨rfl,b3⟩;have v3:=vN.grown b3;obtain ⟨y0,y1,y2,y3,y4,y5,y6,y7,y8⟩:=id v3)
      | (go_at_call 21;refine (hck _).mono ?_;rintro e w4 ⟨rfl,rfl⟩)
      | (go_at_call 15;refine (Xl _ _ _ _ _ _ _ _ _ _).mono ?_;rintro e w5 ⟨rfl,b5⟩)
      | (go_at_call 16;refine (Xk _).mono ?_;rintro e w6 ⟨rfl,b6⟩;have v6:=(v3.grown b5).grown b6;obtain ⟨z0,z1,z2,z3,z4,z5,z6,z7,z8⟩:=id v6))
     go_ret
     exact ⟨rfl,grow (grow (grow (Z7 b2 _) b3) b5) b6⟩
 · have hm : Xu kd ky = false:=by rw [Xu,decide_eq_false h1,Bool.false_and,Bool.false_and,Bool.false_and]
   have hck:=fun w=>Yg kd ky w
   rw [hm] at hck
   have hnb:=fun w=>TL kd ky hd hm w
   clear hm
   go_enter Tryz.func7,Tryz.ntmps7
   go_wp2_with (first
    | (go_at_call 13;refine (hnb _).mono ?_;rintro e w1 ⟨rfl,rfl⟩)
    | (go_at_call 9;refine (bg _).mono ?_;rintro e w2 ⟨L,s,σ,F0,rfl,R0,b2,l2,hσ,-⟩;have HR : Hid (Rest 4 4 L 0 97 1 w2 s σ (qH 4 4 12 40 F0) (fun _=>0) (I9 4 4 12 40) (fun _=>.nil) 0 [0] EI (fun _=>none)):=R0 0 97 (by decide);clear R0;have vN:=(ZU.new (w:=w2) (P:=L.p) (c0:=4) (c1:=4) (c2:=12) (c3:=40) (c4:=100) (c5:=600) (c6:=3) (who:=0) (T:=27)))
    | (go_at_call 10;refine (XW _).mono ?_;rintro e w3 ⟨rfl,b3⟩;have v3:=vN.grown b3;obtain ⟨y0,y1,y2,y3,y4,y5,y6,y7,y8⟩:=id v3)
    | (go_at_call 21;refine (hck _).mono ?_;rintro e w4 ⟨rfl,rfl⟩)
    | (go_at_call 15;refine (Xl _ _ _ _ _ _ _ _ _ _).mono ?_;rintro e w5 ⟨rfl,b5⟩)
    | (go_at_call 16;refine (Xk _).mono ?_;rintro e w6 ⟨rfl,b6⟩;have v6:=(v3.grown b5).grown b6;obtain ⟨z0,z1,z2,z3,z4,z5,z6,z7,z8⟩:=id v6))
   go_ret
   exact ⟨rfl,grow (grow (grow (Z7 b2 _) b3) b5) b6⟩
end Go.Proofs.YtpbghmeikcphnaaGreat
