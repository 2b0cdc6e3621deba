/- MemPlays answers true for every number and all things to be done, and leaves what was in memory. -/
import Derived.Test.YtmndmialhhbogaaPlaysRound
import Derived.Deep.DeepCutAuto
import Derived.Deep.CutBlock
namespace Go.Proofs.Ytmndmialhhbogaa
open Go.RowKit

set_option maxRecDepth 20000 in
set_option maxHeartbeats 4000000 in
theorem plays_any (N : Int) (ao : Option Addr) (n cap : Nat) (A : Acts) (w : World) (hr : ActsAt w ao n A) :
    Calls Try.prog 3 #[.int .i64 N, .slice ao n cap] w fun e w' => e = .returned (.bool true) ∧ Below w.heap.size w w' := by
  obtain ⟨k0, hk0, hk1⟩ := low4 N
  obtain ⟨K, hK⟩ : ∃ K : Nat, K = 1 + k0 := ⟨_, rfl⟩
  have hKe : 1 + (k0 : Int) = (K : Int) := by omega
  have hK2 : 1 ≤ K := by omega
  have hK9 : K ≤ 16 := by omega
  have HR : Hid (ActsAt w ao n A) := hr
  clear hr hK
  have hm1 := run_make_row' (P := Try.prog) 27 32 (.int .u64 0) 8 Try.underlying27 Try.infoW32 rfl .i64 .i64 K (by omega) (by omega)
  have hm2 := run_make_row' (P := Try.prog) 28 3 (.int .i64 0) 8 Try.underlying28 Try.infoW3 rfl .i64 .i64 K (by omega) (by omega)
  go_enter Try.func3, Try.ntmps3
  go_upto_region 3 with (go_at_call 8; refine (new_in K (by omega) (by omega) _).mono ?_; rintro e w1 ⟨L, rfl, h1, b1, f1⟩)
  clear hKe hk0 hk1
  go_cut [8, 9, 10, 11, 12] (fun x8 x9 x10 x11 x12 wx => ∃ BW BN BL, x8 = .slice (some ⟨BW, 0, none⟩) K K ∧ x9 = .slice (some ⟨BN, 0, none⟩) K K ∧ x10 = .int .i64 0 ∧ x11 = .int .i64 0 ∧ x12 = .pointer (some ⟨BL, 0, none⟩) ∧ Book wx BW BN BL (Mm.fresh K) ∧ Only (fun _ => False) w1 wx ∧ w1.heap.size ≤ BW ∧ w1.heap.size ≤ BN ∧ w1.heap.size ≤ BL)
  case first =>
    go_region
    all_goals (go_wp2_with fail)
    all_goals go_meet
    all_goals first
      | (obtain ⟨e1, e2, e3, eo⟩ := born3 w1 (.cells (madeCells #[.int .u64 0] K) 32) (.cells (madeCells #[.int .i64 0] K) 3) (.cells #[.int .i64 0, .int .i64 0, .bool false] 30); exact ⟨_, _, _, rfl, rfl, rfl, rfl, rfl, Book.born K e1 e2 e3 (by omega) (by omega) (by omega), eo, by omega, by omega, by omega⟩)
      | (obtain ⟨e1, e2, e3, eo⟩ := born3 w1 (.cells (madeCells #[.int .u64 0] K) 32) (.cells #[.int .i64 0, .int .i64 0, .bool false] 30) (.cells (madeCells #[.int .i64 0] K) 3); exact ⟨_, _, _, rfl, rfl, rfl, rfl, rfl, Book.born K e1 e3 e2 (by omega) (by omega) (by omega), eo, by omega, by omega, by omega⟩)
      | (obtain ⟨e1, e2, e3, eo⟩ := born3 w1 (.cells (madeCells #[.int .i64 0] K) 3) (.cells (madeCells #[.int .u64 0] K) 32) (.cells #[.int .i64 0, .int .i64 0, .bool false] 30); exact ⟨_, _, _, rfl, rfl, rfl, rfl, rfl, Book.born K e2 e1 e3 (by omega) (by omega) (by omega), eo, by omega, by omega, by omega⟩)
      | (obtain ⟨e1, e2, e3, eo⟩ := born3 w1 (.cells (madeCells #[.int .i64 0] K) 3) (.cells #[.int .i64 0, .int .i64 0, .bool false] 30) (.cells (madeCells #[.int .u64 0] K) 32); exact ⟨_, _, _, rfl, rfl, rfl, rfl, rfl, Book.born K e3 e1 e2 (by omega) (by omega) (by omega), eo, by omega, by omega, by omega⟩)
      | (obtain ⟨e1, e2, e3, eo⟩ := born3 w1 (.cells #[.int .i64 0, .int .i64 0, .bool false] 30) (.cells (madeCells #[.int .u64 0] K) 32) (.cells (madeCells #[.int .i64 0] K) 3); exact ⟨_, _, _, rfl, rfl, rfl, rfl, rfl, Book.born K e2 e3 e1 (by omega) (by omega) (by omega), eo, by omega, by omega, by omega⟩)
      | (obtain ⟨e1, e2, e3, eo⟩ := born3 w1 (.cells #[.int .i64 0, .int .i64 0, .bool false] 30) (.cells (madeCells #[.int .i64 0] K) 3) (.cells (madeCells #[.int .u64 0] K) 32); exact ⟨_, _, _, rfl, rfl, rfl, rfl, rfl, Book.born K e3 e2 e1 (by omega) (by omega) (by omega), eo, by omega, by omega, by omega⟩)
  case rest =>
    obtain ⟨BW, BN, BL, rfl, rfl, rfl, rfl, rfl, hbk, ho, g1, g2, g3⟩ := hcut
    have hs0 := h1.only ho (fun _ _ h => h)
    have hb0 : Below w.heap.size w wc := b1.trans (ho.below b1.size (fun _ _ h => h))
    have nW : ¬ L.has BW := fun h => by have := h1.lt BW h; omega
    have nN : ¬ L.has BN := fun h => by have := h1.lt BN h; omega
    have nL : ¬ L.has BL := fun h => by have := h1.lt BL h; omega
    have gW : w.heap.size ≤ BW := by have := b1.size; omega
    have gN : w.heap.size ≤ BN := by have := b1.size; omega
    have gL : w.heap.size ≤ BL := by have := b1.size; omega
    have d1 := hbk.d1
    have d2 := hbk.d2
    have d3 := hbk.d3
    clear h1 b1 ho g1 g2 g3 hm1 hm2
    go_upto_block 0 with (go_at_call 9; refine (awake02_any _).mono ?_; rintro e w3 ⟨rfl, b3⟩)
    go_cut [10, 11] (fun _ _ wx => ∃ s : Mm, MemAt wx L s ∧ Book wx BW BN BL s ∧ s.n = K ∧ Below w.heap.size w wx)
    case first =>
      go_wp2_with fail
      go_loopw [10, 11, 13] (fun x10 x11 x13 wr => ∃ (k : Nat) (s : Mm), k ≤ n ∧ k ≤ 80 ∧ x13 = .int .i64 k ∧ x10 = .int .i64 s.steps ∧ x11 = .int .i64 s.who ∧ MemAt wr L s ∧ Book wr BW BN BL s ∧ s.n = K ∧ 0 ≤ s.steps ∧ s.steps ≤ k ∧ Below w.heap.size w wr) (fun _ _ i _ => n - (intOf i).toNat)
      case atStart => exact ⟨0, _, Nat.zero_le _, Nat.zero_le _, rfl, rfl, rfl, hs0.below b3, hbk.below b3, rfl, Int.le_refl _, Int.le_refl _, grow hb0 b3⟩
      case round =>
        clear hs0 hb0 hbk b3
        obtain ⟨k, s, hkn, hk80, rfl, rfl, rfl, hs, hbk, hsn, hs0, hsk, hb⟩ := hrel
        by_cases hin : k < n
        · by_cases hi8 : k < 80
          · have hi8' : (k : Int) < 80 := by omega
            obtain ⟨b, off, rfl, c0, c1, c2, c3, c4⟩ := HR.out k hin
            have hp : PlayIn w wr L s A b off n K BW BN BL k := ⟨keep' hb c0, keep' hb c1, keep' hb c2, keep' hb c3, keep' hb c4, hs, hbk, hsn, hs0, hsk, hi8, hin, hK9, hb, f1, nW, nN, nL, gW, gN, gL⟩
            clear c0 c1 c2 c3 c4
            go_upto_block 1 with fail
            refine play_round _ N b off n cap K BW BN BL k L A s w wr _ _ _ _ _ _ _ _ _ _ _ _ _ _ _ _ _ _ _ _ _ _ _ _ _ _ _ _ _ _ _ _ _ _ _ _ _ _ _ _ _ _ _ _ _ _ _ _ _ _ _ _ _ _ _ _ _ _ _ _ _ _ _ _ _ _ _ _ _ _ _ _ _ _ _ _ _ _ _ _ _ _ _ _ _ _ _ _ _ _ _ _ _ _ _ _ _ _ _ _ _ _ _ _ _ _ _ _ _ _ _ _ _ _ _ _ _ _ _ _ _ _ _ _ _ _ _ _ _ _ _ _ _ _ _ _ _ _ _ _ _ _ _ _ _ _ _ _ _ _ _ _ _ _ _ _ _ _ _ _ _ _ _ _ _ _ _ _ _ _ _ _ _ _ _ _ _ _ _ _ _ _ _ _ _ _ _ _ _ _ _ _ _ _ _ _ _ _ _ _ _ _ _ _ _ _ _ _ _ _ _ _ _ _ _ _ _ _ _ _ _ _ _ _ _ _ _ _ _ _ _ _ _ _ _ _ _ _ _ _ _ hp ?_
            clear hp hs hbk hsn hs0 hsk hb
            intro d4 d10 d11 d14 d15 d16 d17 d18 d19 d20 d21 d22 d23 d24 d25 d56 d57 d58 d59 d60 d61 d62 d63 d64 d65 d66 d67 d68 d69 d70 d71 d72 d73 d74 d75 d76 d77 d78 d79 d80 d81 d82 d83 d84 d85 d86 d87 d88 d89 d90 d91 d92 d93 d94 d95 d96 d97 d98 d99 d100 d101 d102 d103 d104 d105 d106 d107 d108 d109 d110 d111 d112 d113 d114 d115 d116 d117 d118 d119 d120 d121 d122 d123 d124 d125 d126 d127 d128 d129 d130 d131 d132 d133 d134 d135 d136 d137 d138 d139 d140 d141 d142 d143 d144 d145 d146 d147 d148 d149 d150 d151 d152 d153 d154 d155 d156 d157 d158 d159 d160 d161 d162 d163 d164 d165 d166 d167 d168 d169 d170 d171 d172 d173 d174 d175 d176 d177 d178 d179 d180 d181 d182 d183 d184 d185 d186 d187 d188 d189 d190 d191 d192 d193 d194 d195 d196 d197 d198 d199 d200 d201 d202 d203 d204 d205 d206 d207 W' ho
            obtain ⟨t, rfl, rfl, h7, bk7, e7, s7, s8, b7⟩ := ho
            go_wp2
            go_roundw
            case rel => exact ⟨k + 1, t, by omega, by omega, by go_num, rfl, rfl, h7, bk7, e7, s7, s8, b7⟩
            case measure => simp [intOf]; omega
          · go_wp2
            go_meet
            exact ⟨s, hs, hbk, hsn, hb⟩
        · go_wp2
          go_meet
          exact ⟨s, hs, hbk, hsn, hb⟩
    case rest =>
      clear hs0 hb0 hbk
      obtain ⟨s, hs, hbk, hsn, hb⟩ := hcut
      go_wp2
      go_loopw [26] (fun j wr => ∃ q : Nat, q ≤ K ∧ j = .int .i64 q ∧ MemAt wr L s ∧ Book wr BW BN BL s ∧ Below w.heap.size w wr) (fun j _ => K - (intOf j).toNat)
      case atStart => exact ⟨0, Nat.zero_le _, rfl, hs, hbk, hb⟩
      case round =>
        clear hs hbk hb
        obtain ⟨q, hq, rfl, hs, hbk, hb⟩ := hrel
        by_cases hqK : q < K
        · have e1 := hbk.ws.cell (i := q) (by omega)
          have e2 := hbk.ns.cell (i := q) (by omega)
          go_wp2
          go_quiet ((first | (go_at_call 17; exact Calls.quiet_of_same (peek_in (hs.drewN _) q (by omega))) | (go_at_call 18; exact Calls.quiet_of_same (when_in (hs.drewN _) q (by omega)))))
          go_wp2
          go_roundw
          case rel => exact ⟨q + 1, by omega, by go_num, hs.drewN _, hbk.of_blocks rfl rfl rfl, below_drewN hb _⟩
          case measure => simp [intOf]; omega
        · have hqq : ¬ ((0 : Int) ≤ (K : Int) ∧ (K : Int) < (s.n : Int)) := by omega
          have hm1 : ¬ ((0 : Int) ≤ (-1 : Int) ∧ (-1 : Int) < (s.n : Int)) := by omega
          have HQ : Hid (¬ ((0 : Int) ≤ (K : Int) ∧ (K : Int) < (s.n : Int))) := hqq
          have HM : Hid (¬ ((0 : Int) ≤ (-1 : Int) ∧ (-1 : Int) < (s.n : Int))) := hm1
          clear hqq hm1
          go_wp2_with (first
            | (go_at_call_of 17 (Value.int .i64 (K : Int)); refine (peek_out hs (K : Int) HQ.out).mono ?_; rintro e w' ⟨rfl, rfl⟩)
            | (go_at_call 17; refine (peek_out hs (-1) HM.out).mono ?_; rintro e w' ⟨rfl, rfl⟩)
            | (go_at_call_of 18 (Value.int .i64 (K : Int)); refine (when_out hs (K : Int) HQ.out).mono ?_; rintro e w' ⟨rfl, rfl⟩)
            | (go_at_call 18; refine (when_out hs (-1) HM.out).mono ?_; rintro e w' ⟨rfl, rfl⟩))
          go_ret
          exact ⟨rfl, hb⟩

end Go.Proofs.Ytmndmialhhbogaa
