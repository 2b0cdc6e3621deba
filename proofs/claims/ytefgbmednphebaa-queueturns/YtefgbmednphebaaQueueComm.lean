/- What package queue's Push and Pop come to: each is one step at a channel that has room, or has none, or holds something, or nothing. -/
import Derived.Test.YtefgbmednphebaaQueue
namespace Go.Proofs.Ytefgbmednphebaa
open Go.RowKit Go.Conc

set_option maxRecDepth 100000 in
theorem qpush_room {w : World} {L : Qloc} {m : Nat} {l : List Int} (h : QueueAt w L m l) (x : Int) (hx : l.length < m) :
    Calls Try.prog 10 #[.pointer (some ⟨L.p, 0, none⟩), .int .i64 x] w fun e w' => e = .returned (.int .i64 0) ∧ QueueAt w' L m (l ++ [x]) ∧ Only L.has w w' ∧ w'.heap.size = w.heap.size := by
  have k0 := h.c0
  obtain ⟨s, r, k1⟩ := h.ch
  refine calls_of_loneTo fun cs => ?_
  have e : Frame.enter Try.prog 10 #[.pointer (some ⟨L.p, 0, none⟩), .int .i64 x] .normal = (base 10).at ⟨#[.pointer (some ⟨L.p, 0, none⟩), .int .i64 x, undef, undef, undef, undef, undef, undef, undef, undef, undef, undef, undef, undef, undef], []⟩ [.code (Try.f10.body.getD .skip)] := by
    simp [Frame.enter, Frame.at, Try.func10, base, Try.f10]
  rw [e]
  refine LoneTo.goes (n := 100) ?_
  simp only [Try.f10, Option.getD_some]
  repeat (first | s_c stepG_seq | s_reg | s_op | s_c stepG_region_end | s_c stepG_skip | s_c stepG_block | s_cond false)
  s_stop
  refine LoneTo.step (step_lone_select_send_room (c := L.c) (v := .int .i64 x) (z' := .int .i64 0) (cap := m) (buf := bufOf l) (s := s) (r := r) (tm := false)
    (stepG_comm (cases := #[scase L.c (.int .i64 x) (.int .i64 0)]) (blocking := false) (shape := .select) (w' := w) rfl rfl (by decide) (by simp [go_sem, execOp, scase, Act.eval])) k1 (by rw [bufOf_size]; exact hx)) ?_
  rw [Frame.finish_at, bufOf_push]
  walk_nrm
  refine LoneTo.goes (n := 100) ?_
  repeat (first | s_op | s_c stepG_region_end | s_c stepG_block | s_cond true | s_c stepG_seq | s_reg | s_c stepG_ret')
  s_stop
  refine LoneTo.done ⟨.returned (.int .i64 0), _, rfl, ⟨rfl, h.put _ (by simp; omega) _ _, only_setChan _ _ _ _ _ _, by simp [World.setChan]⟩, rfl, rfl, rfl, rfl, _, Try.func10, by simp [results, Try.f10, Frame.at]⟩

set_option maxRecDepth 100000 in
theorem qpush_full {w : World} {L : Qloc} {m : Nat} {l : List Int} (h : QueueAt w L m l) (x : Int) (hx : l.length = m) :
    Calls Try.prog 10 #[.pointer (some ⟨L.p, 0, none⟩), .int .i64 x] w fun e w' => e = .returned (.int .i64 9) ∧ w' = w := by
  have k0 := h.c0
  obtain ⟨s, r, k1⟩ := h.ch
  refine calls_of_loneTo fun cs => ?_
  have e : Frame.enter Try.prog 10 #[.pointer (some ⟨L.p, 0, none⟩), .int .i64 x] .normal = (base 10).at ⟨#[.pointer (some ⟨L.p, 0, none⟩), .int .i64 x, undef, undef, undef, undef, undef, undef, undef, undef, undef, undef, undef, undef, undef], []⟩ [.code (Try.f10.body.getD .skip)] := by
    simp [Frame.enter, Frame.at, Try.func10, base, Try.f10]
  rw [e]
  refine LoneTo.goes (n := 100) ?_
  simp only [Try.f10, Option.getD_some]
  repeat (first | s_c stepG_seq | s_reg | s_op | s_c stepG_region_end | s_c stepG_skip | s_c stepG_block | s_cond false)
  s_stop
  refine LoneTo.step (step_lone_select_send_full (c := L.c) (v := .int .i64 x) (z' := .int .i64 0) (cap := m) (buf := bufOf l) (s := s) (r := r) (tm := false)
    (stepG_comm (cases := #[scase L.c (.int .i64 x) (.int .i64 0)]) (blocking := false) (shape := .select) (w' := w) rfl rfl (by decide) (by simp [go_sem, execOp, scase, Act.eval])) k1 (by rw [bufOf_size]; omega)) ?_
  rw [Frame.finish_at]
  walk_nrm
  refine LoneTo.goes (n := 100) ?_
  repeat (first | s_op | s_c stepG_region_end | s_c stepG_block | s_cond false | s_c stepG_seq | s_reg | s_c stepG_ret')
  s_stop
  refine LoneTo.done ⟨.returned (.int .i64 9), _, rfl, ⟨rfl, rfl⟩, rfl, rfl, rfl, rfl, _, Try.func10, by simp [results, Try.f10, Frame.at]⟩

set_option maxRecDepth 100000 in
theorem qpop_some {w : World} {L : Qloc} {m : Nat} {l : List Int} {x : Int} (h : QueueAt w L m (x :: l)) :
    Calls Try.prog 9 #[.pointer (some ⟨L.p, 0, none⟩)] w fun e w' => e = .returned (.tuple #[.int .i64 x, .bool true]) ∧ QueueAt w' L m l ∧ Only L.has w w' ∧ w'.heap.size = w.heap.size := by
  have k0 := h.c0
  obtain ⟨s, r, k1⟩ := h.ch
  refine calls_of_loneTo fun cs => ?_
  have e : Frame.enter Try.prog 9 #[.pointer (some ⟨L.p, 0, none⟩)] .normal = (base 9).at ⟨#[.pointer (some ⟨L.p, 0, none⟩), undef, undef, undef, undef, undef, undef, undef, undef, undef, undef, undef, undef, undef, undef, undef], []⟩ [.code (Try.f9.body.getD .skip)] := by
    simp [Frame.enter, Frame.at, Try.func9, base, Try.f9]
  rw [e]
  refine LoneTo.goes (n := 100) ?_
  simp only [Try.f9, Option.getD_some]
  repeat (first | s_c stepG_seq | s_reg | s_op | s_c stepG_region_end | s_c stepG_skip | s_c stepG_block | s_cond false)
  s_stop
  refine LoneTo.step (step_lone_select_recv_buf (c := L.c) (z := .int .i64 0) (cap := m) (buf := bufOf (x :: l)) (closed := false) (s := s) (r := r) (tm := false)
    (stepG_comm (cases := #[rcase L.c (.int .i64 0)]) (blocking := false) (shape := .select) (w' := w) rfl rfl (by decide) (by simp [go_sem, execOp, rcase, Act.eval])) k1 (by rw [bufOf_size]; simp)) ?_
  rw [Frame.finish_at, bufOf_pop, bufOf_first]
  walk_nrm
  refine LoneTo.goes (n := 100) ?_
  repeat (first | s_op | s_c stepG_region_end | s_c stepG_block | s_cond true | s_c stepG_seq | s_reg | s_c stepG_ret')
  s_stop
  refine LoneTo.done ⟨.returned (.tuple #[.int .i64 x, .bool true]), _, rfl, ⟨rfl, h.put _ (by have := h.len; simp at this; omega) _ _, only_setChan _ _ _ _ _ _, by simp [World.setChan]⟩, rfl, rfl, rfl, rfl, _, Try.func9, by simp [results, Try.f9, Frame.at]⟩

set_option maxRecDepth 100000 in
theorem qpop_none {w : World} {L : Qloc} {m : Nat} (h : QueueAt w L m []) :
    Calls Try.prog 9 #[.pointer (some ⟨L.p, 0, none⟩)] w fun e w' => e = .returned (.tuple #[.int .i64 0, .bool false]) ∧ w' = w := by
  have k0 := h.c0
  obtain ⟨s, r, k1⟩ := h.ch
  refine calls_of_loneTo fun cs => ?_
  have e : Frame.enter Try.prog 9 #[.pointer (some ⟨L.p, 0, none⟩)] .normal = (base 9).at ⟨#[.pointer (some ⟨L.p, 0, none⟩), undef, undef, undef, undef, undef, undef, undef, undef, undef, undef, undef, undef, undef, undef, undef], []⟩ [.code (Try.f9.body.getD .skip)] := by
    simp [Frame.enter, Frame.at, Try.func9, base, Try.f9]
  rw [e]
  refine LoneTo.goes (n := 100) ?_
  simp only [Try.f9, Option.getD_some]
  repeat (first | s_c stepG_seq | s_reg | s_op | s_c stepG_region_end | s_c stepG_skip | s_c stepG_block | s_cond false)
  s_stop
  refine LoneTo.step (step_lone_select_default (c := L.c) (z := .int .i64 0) (cap := m) (s := s) (r := r) (tm := false)
    (stepG_comm (cases := #[rcase L.c (.int .i64 0)]) (blocking := false) (shape := .select) (w' := w) rfl rfl (by decide) (by simp [go_sem, execOp, rcase, Act.eval])) k1) ?_
  rw [Frame.finish_at]
  walk_nrm
  refine LoneTo.goes (n := 100) ?_
  repeat (first | s_op | s_c stepG_region_end | s_c stepG_block | s_cond false | s_c stepG_seq | s_reg | s_c stepG_ret')
  s_stop
  refine LoneTo.done ⟨.returned (.tuple #[.int .i64 0, .bool false]), _, rfl, ⟨rfl, rfl⟩, rfl, rfl, rfl, rfl, _, Try.func9, by simp [results, Try.f9, Frame.at]⟩

end Go.Proofs.Ytefgbmednphebaa
