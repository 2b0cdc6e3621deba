/- MemApart answers true for every number and all things to be done, and leaves what was in memory. -/
import Derived.Test.YtmndmialhhbogaaStay
import Derived.Test.YtmndmialhhbogaaLow
import Derived.Test.YtmndmialhhbogaaShapeActs
namespace Go.Proofs.Ytmndmialhhbogaa
open Go.RowKit

theorem low3 (n : Int) : ∃ k : Nat, bits .and .i64 n 7 = (k : Int) ∧ k < 8 := by
  have h := i64_low n 7 3 (by decide) (by decide)
  refine ⟨(n % 8).toNat, ?_, by omega⟩
  rw [h]
  omega

/-- a word's number, whatever the number is -/
theorem within (x : Int) (K : Nat) (hK : 1 ≤ K) : ∃ a : Nat, (x.tmod (K : Int) + (K : Int)) % (K : Int) = (a : Int) ∧ a < K ∧ -(K : Int) < x.tmod (K : Int) ∧ x.tmod (K : Int) < (K : Int) := by
  have h1 := Int.emod_nonneg (x.tmod (K : Int) + (K : Int)) (b := (K : Int)) (by omega)
  have h2 := Int.emod_lt_of_pos (x.tmod (K : Int) + (K : Int)) (b := (K : Int)) (by omega)
  refine ⟨((x.tmod (K : Int) + (K : Int)) % (K : Int)).toNat, by omega, by omega, ?_, ?_⟩
  · have := Int.lt_tmod_of_pos x (b := (K : Int)) (by omega); omega
  · exact Int.tmod_lt_of_pos x (by omega)

theorem row_more {w : World} {B : Nat} {f : Nat → Int} {K j : Nat} (h : w.rowIs B 32 K (fun i => .int .u64 (if i < j then f i else 0))) (hj : j < K) :
    (w.setCell ⟨B, j, none⟩ (.int .u64 (f j))).rowIs B 32 K (fun i => .int .u64 (if i < j + 1 then f i else 0)) := by
  refine (h.set j (.int .u64 (f j))).congr fun i hi => ?_
  by_cases e : i = j
  · subst e; simp
  · rw [if_neg e]
    by_cases hlt : i < j
    · rw [if_pos hlt, if_pos (by omega)]
    · rw [if_neg hlt, if_neg (by omega)]

theorem row_all {w : World} {B : Nat} {f : Nat → Int} {K : Nat} (h : w.rowIs B 32 K (fun i => .int .u64 (if i < K then f i else 0))) : w.rowIs B 32 K (fun i => .int .u64 (f i)) :=
  h.congr fun i hi => by rw [if_pos hi]

set_option maxRecDepth 20000 in
set_option maxHeartbeats 4000000 in
theorem apart_any (N : Int) (ao : Option Addr) (n cap : Nat) (A : Acts) (w : World) (hr : ActsAt w ao n A) :
    Calls Try.prog 7 #[.int .i64 N, .slice ao n cap] w fun e w' => e = .returned (.bool true) ∧ Below w.heap.size w w' := by
  obtain ⟨k0, hk0, hk1⟩ := low3 N
  obtain ⟨K, hK⟩ : ∃ K : Nat, K = 2 + k0 := ⟨_, rfl⟩
  have hKe : 2 + (k0 : Int) = (K : Int) := by omega
  have hK2 : 2 ≤ K := by omega
  have hK9 : K ≤ 9 := by omega
  have HR : Hid (ActsAt w ao n A) := hr
  clear hr hK
  go_enter Try.func7, Try.ntmps7
  go_wp2_with (go_at_call 8; refine (new_in K (by omega) (by omega) _).mono ?_; rintro e w1 ⟨L, rfl, h1, b1, f1⟩)
  clear hKe hk0 hk1
  go_loopw [7, 8] (fun x i wr => ∃ (k : Nat) (s : Mm), k ≤ K ∧ i = .int .i64 k ∧ x = .int .i64 0 ∧ MemAt wr L s ∧ s.n = K ∧ Below w.heap.size w wr) (fun _ i _ => K - (intOf i).toNat)
  case atStart => exact ⟨0, _, Nat.zero_le _, rfl, rfl, h1, rfl, b1⟩
  case round =>
    obtain ⟨k, s, hk, rfl, rfl, hs, hsn, hb⟩ := hrel
    by_cases hlt : k < K
    · go_wp2_with (go_at_call 11; refine (store_in hs _ (by omega) _).mono ?_; rintro e w2 ⟨rfl, h2, b2, _⟩)
      go_roundw
      case rel => exact ⟨k + 1, _, by omega, by go_num, rfl, h2, hsn, grow_only hb f1 b2⟩
      case measure => simp [intOf]; omega
    · clear h1 b1
      go_wp2_with (go_at_call 9; refine (awake02_any _).mono ?_; rintro e w3 ⟨rfl, b3⟩; have hs3 := hs.below b3; have hb3 := grow hb b3)
      clear hs hb b3
      have hmk := run_make_row' (P := Try.prog) 27 32 (.int .u64 0) 8 Try.underlying27 Try.infoW32 rfl .i64 .i64 K (by omega) (by omega)
      go_loopw [9] (fun i wr => ∃ (k : Nat) (s : Mm), k ≤ n ∧ k ≤ 60 ∧ i = .int .i64 k ∧ MemAt wr L s ∧ s.n = K ∧ Below w.heap.size w wr) (fun i _ => n - (intOf i).toNat)
      case atStart => exact ⟨0, _, Nat.zero_le _, Nat.zero_le _, rfl, hs3, hsn, hb3⟩
      case round =>
        clear hs3 hb3
        obtain ⟨i, t, hi, h60, rfl, ht, htn, hbt⟩ := hrel
        by_cases hin : i < n
        · by_cases hi6 : i < 60
          · have hi6' : (i : Int) < 60 := by omega
            go_wp2
            obtain ⟨B, hB⟩ : ∃ B, B = wr.heap.size := ⟨_, rfl⟩
            have hrow := World.rowIs_made wr (.int .u64 0) K 32
            have hmem := ht.alloc (.cells (madeCells #[.int .u64 0] K) 32)
            have hbel := hbt.alloc hbt.size (.cells (madeCells #[.int .u64 0] K) 32)
            have hLB : ¬ L.has B := fun h => by have := ht.lt B h; omega
            have hBw : w.heap.size ≤ B := by have := hbt.size; omega
            rw [← hB] at hrow ⊢
            clear hB ht hbt
            go_loopw [11] (fun j wr => ∃ (k : Nat), k ≤ K ∧ j = .int .i64 k ∧ MemAt wr L t ∧ wr.rowIs B 32 K (fun i => .int .u64 (if i < k then t.wd i else 0)) ∧ Below w.heap.size w wr) (fun j _ => K - (intOf j).toNat)
            case atStart => exact ⟨0, Nat.zero_le _, rfl, hmem, hrow, hbel⟩
            case round =>
              clear hrow hmem hbel
              obtain ⟨j, hj, rfl, hmem, hrow, hbel⟩ := hrel
              by_cases hjK : j < K
              · have hc := hrow.cell hjK
                have hf := hrow.frozen j
                go_wp2_with (go_at_call 17; refine (peek_in hmem _ (by omega)).mono ?_; rintro e w5 ⟨rfl, rfl⟩)
                go_roundw
                case rel =>
                  exact ⟨j + 1, by omega, by go_num, hmem.other (a := ⟨B, j, none⟩) hLB _, row_more hrow hjK, hbel.setCell (p := ⟨B, j, none⟩) hBw _⟩
                case measure => simp [intOf]; omega
              · have hjj : j = K := by omega
                rw [hjj] at hrow
                have hall := row_all hrow
                obtain ⟨b, off, rfl, kk0, ka0, _, kw0, _⟩ := HR.out i hin
                have kk := keep' hbel kk0
                have ka := keep' hbel ka0
                have kw := keep' hbel kw0
                have kw1 : Hid (w.cell? ⟨b, off + i * 5 + 3, none⟩ = some (.int .u64 (A.w i))) := kw0
                clear kk0 ka0 kw0
                obtain ⟨a, haK, haa, hm1, hm2⟩ := within (A.at_ i) K (by omega)
                clear hrow hjj hj
                by_cases hd0 : A.kind i = 0
                · go_wp2_with (go_at_call 10; refine (load_in hmem _ (by omega)).mono ?_; rintro e w6 ⟨rfl, h6, o6, _⟩)
                  obtain ⟨t6, ht6⟩ : ∃ t6, t6 = t.step a (t.wd a) := ⟨_, rfl⟩
                  rw [← ht6] at h6
                  have e6n : t6.n = K := by rw [ht6]; exact htn
                  have e6w : Hid (∀ q, q < K → (q ≠ a ∨ true = true) → t6.wd q = t.wd q) := by
                    intro q _ hh
                    rw [ht6]
                    show upd t.wd a (t.wd a) q = t.wd q
                    rw [upd_id]
                  have r6 := o6.row hLB hall
                  have b6 := grow_only hbel f1 o6
                  clear ht6 o6 hall hmem hbel
                  go_loopw [14] (fun j wr => ∃ q : Nat, q ≤ K ∧ j = .int .i64 q ∧ MemAt wr L t6 ∧ wr.rowIs B 32 K (fun i => .int .u64 (t.wd i)) ∧ Below w.heap.size w wr) (fun j _ => K - (intOf j).toNat)
                  case atStart => exact ⟨0, Nat.zero_le _, rfl, h6, r6, b6⟩
                  case round =>
                    clear h6 r6 b6
                    obtain ⟨q, hq, rfl, h6, r6, b6⟩ := hrel
                    by_cases hqK : q < K
                    · have hcq := r6.cell hqK
                      by_cases hqa : q = a
                      · subst hqa
                        have E : Hid (t6.wd q = t.wd q) := e6w.out q hqK (by simp)
                        go_wp2
                        go_quiet ((go_at_call 17; exact Calls.quiet_of_same (peek_eq (h6.drewN _) q (by omega) (t.wd q) E.out)))
                        go_wp2
                        go_roundw
                        case rel =>
                          exact ⟨q + 1, by omega, by go_num, h6.drewN _, r6, below_drewN b6 _⟩
                        case measure => simp [intOf]; omega
                      · have hqa' : ¬ (q : Int) = (a : Int) := by omega
                        have E : Hid (t6.wd q = t.wd q) := e6w.out q hqK (by simp [hqa])
                        go_wp2
                        go_quiet ((go_at_call 17; exact Calls.quiet_of_same (peek_eq (h6.drewN _) q (by omega) (t.wd q) E.out)))
                        go_wp2
                        go_roundw
                        case rel =>
                          exact ⟨q + 1, by omega, by go_num, h6.drewN _, r6, below_drewN b6 _⟩
                        case measure => simp [intOf]; omega
                    · go_wp2
                      go_roundw
                      case rel =>
                        exact ⟨i + 1, t6, by omega, by omega, by go_num, h6, e6n, b6⟩
                      case measure => simp [intOf]; omega
                · by_cases hd1 : A.kind i = 1
                  · go_wp2_with (go_at_call 11; refine (store_in hmem _ (by omega) _).mono ?_; rintro e w6 ⟨rfl, h6, o6, _⟩)
                    obtain ⟨t6, ht6⟩ : ∃ t6, t6 = t.step a (A.w i) := ⟨_, rfl⟩
                    rw [← ht6] at h6
                    have e6n : t6.n = K := by rw [ht6]; exact htn
                    have e6w : Hid (∀ q, q < K → (q ≠ a ∨ false = true) → t6.wd q = t.wd q) := by
                      intro q _ hh
                      rw [ht6]
                      exact upd_other _ _ _ _ (hh.resolve_right (by simp))
                    have r6 := o6.row hLB hall
                    have b6 := grow_only hbel f1 o6
                    clear ht6 o6 hall hmem hbel
                    go_loopw [14] (fun j wr => ∃ q : Nat, q ≤ K ∧ j = .int .i64 q ∧ MemAt wr L t6 ∧ wr.rowIs B 32 K (fun i => .int .u64 (t.wd i)) ∧ Below w.heap.size w wr) (fun j _ => K - (intOf j).toNat)
                    case atStart => exact ⟨0, Nat.zero_le _, rfl, h6, r6, b6⟩
                    case round =>
                      clear h6 r6 b6
                      obtain ⟨q, hq, rfl, h6, r6, b6⟩ := hrel
                      by_cases hqK : q < K
                      · have hcq := r6.cell hqK
                        by_cases hqa : q = a
                        · subst hqa
                          go_wp2
                          go_quiet (fail)
                          go_wp2
                          go_roundw
                          case rel =>
                            exact ⟨q + 1, by omega, by go_num, h6.drewN _, r6, below_drewN b6 _⟩
                          case measure => simp [intOf]; omega
                        · have hqa' : ¬ (q : Int) = (a : Int) := by omega
                          have E : Hid (t6.wd q = t.wd q) := e6w.out q hqK (by simp [hqa])
                          go_wp2
                          go_quiet ((go_at_call 17; exact Calls.quiet_of_same (peek_eq (h6.drewN _) q (by omega) (t.wd q) E.out)))
                          go_wp2
                          go_roundw
                          case rel =>
                            exact ⟨q + 1, by omega, by go_num, h6.drewN _, r6, below_drewN b6 _⟩
                          case measure => simp [intOf]; omega
                      · go_wp2
                        go_roundw
                        case rel =>
                          exact ⟨i + 1, t6, by omega, by omega, by go_num, h6, e6n, b6⟩
                        case measure => simp [intOf]; omega
                  · by_cases hd2 : A.kind i = 2
                    · haveI := Stay.exists hmem
                      have nb : ¬ L.has b := fun h => by have := f1 b h; have := World.block_lt_of_cell? w _ kw1.out; simp at this; omega
                      have nw := fun m : Stay wr L t => m.cell nb kw
                      have nB := fun m : Stay wr L t => m.cell hLB (hall.cell haa)
                      have hne : ¬ t.wd a = (t.wd a + 1) % 18446744073709551616 := by omega
                      go_wp2
                      refine wp_region_stay hmem (by kernel_rfl) (by kernel_rfl) ?_
                      repeat (go_big_quiet_step ((go_at_call 12; exact stay_cas _ a (by omega) _ _ hne)))
                      refine wpQuiet_nil ?_
                      intro _ hw'
                      obtain ⟨nq, hw''⟩ := hw'
                      subst hw''
                      obtain ⟨t6, h6, e6n0, e6w0⟩ := nq.mem
                      have e6n : t6.n = K := e6n0.trans htn
                      have e6w : Hid (∀ q, q < K → (q ≠ a ∨ true = true) → t6.wd q = t.wd q) := fun q _ _ => by rw [e6w0]
                      have r6 := nq.only.row hLB hall
                      have b6 := grow_only hbel f1 nq.only
                      clear e6n0 e6w0 hall hmem hbel nw nB
                      go_wp2
                      go_loopw [14] (fun j wr => ∃ q : Nat, q ≤ K ∧ j = .int .i64 q ∧ MemAt wr L t6 ∧ wr.rowIs B 32 K (fun i => .int .u64 (t.wd i)) ∧ Below w.heap.size w wr) (fun j _ => K - (intOf j).toNat)
                      case atStart => exact ⟨0, Nat.zero_le _, rfl, h6, r6, b6⟩
                      case round =>
                        clear h6 r6 b6
                        obtain ⟨q, hq, rfl, h6, r6, b6⟩ := hrel
                        by_cases hqK : q < K
                        · have hcq := r6.cell hqK
                          by_cases hqa : q = a
                          · subst hqa
                            have E : Hid (t6.wd q = t.wd q) := e6w.out q hqK (by simp)
                            go_wp2
                            go_quiet ((go_at_call 17; exact Calls.quiet_of_same (peek_eq (h6.drewN _) q (by omega) (t.wd q) E.out)))
                            go_wp2
                            go_roundw
                            case rel =>
                              exact ⟨q + 1, by omega, by go_num, h6.drewN _, r6, below_drewN b6 _⟩
                            case measure => simp [intOf]; omega
                          · have hqa' : ¬ (q : Int) = (a : Int) := by omega
                            have E : Hid (t6.wd q = t.wd q) := e6w.out q hqK (by simp [hqa])
                            go_wp2
                            go_quiet ((go_at_call 17; exact Calls.quiet_of_same (peek_eq (h6.drewN _) q (by omega) (t.wd q) E.out)))
                            go_wp2
                            go_roundw
                            case rel =>
                              exact ⟨q + 1, by omega, by go_num, h6.drewN _, r6, below_drewN b6 _⟩
                            case measure => simp [intOf]; omega
                        · go_wp2
                          go_roundw
                          case rel =>
                            exact ⟨i + 1, t6, by omega, by omega, by go_num, h6, e6n, b6⟩
                          case measure => simp [intOf]; omega
                    · go_wp2_with (go_at_call 13; refine (add_in hmem _ (by omega) _).mono ?_; rintro e w6 ⟨rfl, h6, o6, _⟩)
                      obtain ⟨t6, ht6⟩ : ∃ t6, t6 = t.step a (sum64 (t.wd a) (A.w i)) := ⟨_, rfl⟩
                      rw [← ht6] at h6
                      have e6n : t6.n = K := by rw [ht6]; exact htn
                      have e6w : Hid (∀ q, q < K → (q ≠ a ∨ false = true) → t6.wd q = t.wd q) := by
                        intro q _ hh
                        rw [ht6]
                        exact upd_other _ _ _ _ (hh.resolve_right (by simp))
                      have r6 := o6.row hLB hall
                      have b6 := grow_only hbel f1 o6
                      clear ht6 o6 hall hmem hbel
                      go_loopw [14] (fun j wr => ∃ q : Nat, q ≤ K ∧ j = .int .i64 q ∧ MemAt wr L t6 ∧ wr.rowIs B 32 K (fun i => .int .u64 (t.wd i)) ∧ Below w.heap.size w wr) (fun j _ => K - (intOf j).toNat)
                      case atStart => exact ⟨0, Nat.zero_le _, rfl, h6, r6, b6⟩
                      case round =>
                        clear h6 r6 b6
                        obtain ⟨q, hq, rfl, h6, r6, b6⟩ := hrel
                        by_cases hqK : q < K
                        · have hcq := r6.cell hqK
                          by_cases hqa : q = a
                          · subst hqa
                            go_wp2
                            go_quiet (fail)
                            go_wp2
                            go_roundw
                            case rel =>
                              exact ⟨q + 1, by omega, by go_num, h6.drewN _, r6, below_drewN b6 _⟩
                            case measure => simp [intOf]; omega
                          · have hqa' : ¬ (q : Int) = (a : Int) := by omega
                            have E : Hid (t6.wd q = t.wd q) := e6w.out q hqK (by simp [hqa])
                            go_wp2
                            go_quiet ((go_at_call 17; exact Calls.quiet_of_same (peek_eq (h6.drewN _) q (by omega) (t.wd q) E.out)))
                            go_wp2
                            go_roundw
                            case rel =>
                              exact ⟨q + 1, by omega, by go_num, h6.drewN _, r6, below_drewN b6 _⟩
                            case measure => simp [intOf]; omega
                        · go_wp2
                          go_roundw
                          case rel =>
                            exact ⟨i + 1, t6, by omega, by omega, by go_num, h6, e6n, b6⟩
                          case measure => simp [intOf]; omega
          · go_wp2
            go_ret
            exact ⟨rfl, hbt⟩
        · go_wp2
          go_ret
          exact ⟨rfl, hbt⟩

end Go.Proofs.Ytmndmialhhbogaa
