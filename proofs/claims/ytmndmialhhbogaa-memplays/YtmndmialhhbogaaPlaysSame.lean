/- The end of the body of the loop of MemPlays, where the word stays. -/
import Derived.Test.YtmndmialhhbogaaPlaysBase
namespace Go.Proofs.Ytmndmialhhbogaa
open Go.RowKit

set_option maxRecDepth 20000 in
set_option maxHeartbeats 2000000 in
theorem tail_same (Q : Exit → Act → World → Prop) (N : Int) (b off n cap K BW BN BL k : Nat) (L : Loc) (s : Mm) (w wr : World) (c2 c3 c4 c7 c19 c20 c21 c22 c23 c24 c25 c26 c27 c28 c29 c30 c31 c32 c33 c34 c35 c36 c37 c38 c39 c40 c41 c42 c43 c44 c45 c46 c47 c48 c49 c50 c51 c52 c53 c54 c55 c56 c57 c58 c59 c60 c61 c62 c63 c64 c65 c66 c67 c68 c69 c70 c71 c72 c73 c74 c75 c76 c77 c78 c79 c80 c81 c82 c83 c84 c85 c86 c87 c88 c89 c90 c91 c92 c93 c94 c95 c96 c97 c98 c99 c100 c101 c102 c103 c104 c105 c106 c107 c108 c109 c110 c111 c112 c113 c114 c115 c116 c117 c118 c119 c120 c121 c122 c123 c124 c125 c126 c127 c128 c129 c130 c131 c132 c133 c134 c135 c136 c137 c138 c139 c140 c141 c142 c143 c144 c145 c146 c147 c148 c149 c150 c151 c152 c153 c154 c155 c156 c157 c158 c159 c160 c161 c162 c163 c164 c165 c166 c167 c168 c169 c170 c171 c172 c173 c174 c175 c176 c177 c178 c179 c180 c181 c182 c183 c184 c185 c186 c187 c188 c189 c190 c191 c192 c193 c194 c195 c196 c197 c198 c199 c200 c201 c202 c203 c204 c205 c206 c207 c208 c209 c210 c211 c212 c213 c214 c215 c216 c217 c218 c219 c220 c221 c222 c223 c224 c225 c226 c227 c228 c229 c230 c231 c232 c233 c234 c235 c236 c237 c238 c239 c240 c241 c242 c243 c244 c245 c246 c247 c248 c249 c250 : Value) (a BA : Nat) (v : Int) (haK : a < K) (HV : Hid (s.wd a = v)) (HST : Hid (wrap64 (s.steps + 1) = s.steps + 1))
    (h6 : MemAt wr L (s.step a v)) (bk6 : Book wr BW BN BL s) (b6 : Below w.heap.size w wr) (p16 : wr.cell? ⟨BA, 1, none⟩ = some (.int .i64 a)) (hsn : s.n = K) (hs0 : 0 ≤ s.steps) (hsk : s.steps ≤ k) (hk8 : k < 80)
    (nW : ¬ L.has BW) (nL : ¬ L.has BL) (gW : w.heap.size ≤ BW) (gL : w.heap.size ≤ BL) (aW : BA ≠ BW) (aN : BA ≠ BN) (aL : BA ≠ BL)
    (hQ : ∀ (d4 d10 d16 d154 d155 d156 d157 d158 d159 d160 d161 d162 d163 d164 d165 d166 d167 d168 d169 d170 d171 d172 d173 d174 d175 d176 d177 d178 d179 d180 d181 d182 d183 d184 d185 d186 d187 d188 d189 d190 d191 d192 d193 d194 d195 d196 d197 d198 d199 d200 d201 d202 d203 d204 d205 d206 d207 : Value) (W' : World), PlayOut w W' L BW BN BL K k d10 (.int .i64 s.who) → Q .normal ⟨#[.int .i64 N, .slice (some ⟨b, off, none⟩) n cap, c2, c3, d4, .int .i64 K, .pointer (some ⟨L.p, 0, none⟩), c7, .slice (some ⟨BW, 0, none⟩) K K, .slice (some ⟨BN, 0, none⟩) K K, d10, .int .i64 s.who, .pointer (some ⟨BL, 0, none⟩), .int .i64 k, .pointer (some ⟨BA, 0, none⟩), .bool true, d16, .int .u64 v, .int .i64 0, c19, c20, c21, c22, c23, c24, c25, c26, c27, c28, c29, c30, c31, c32, c33, c34, c35, c36, c37, c38, c39, c40, c41, c42, c43, c44, c45, c46, c47, c48, c49, c50, c51, c52, c53, c54, c55, c56, c57, c58, c59, c60, c61, c62, c63, c64, c65, c66, c67, c68, c69, c70, c71, c72, c73, c74, c75, c76, c77, c78, c79, c80, c81, c82, c83, c84, c85, c86, c87, c88, c89, c90, c91, c92, c93, c94, c95, c96, c97, c98, c99, c100, c101, c102, c103, c104, c105, c106, c107, c108, c109, c110, c111, c112, c113, c114, c115, c116, c117, c118, c119, c120, c121, c122, c123, c124, c125, c126, c127, c128, c129, c130, c131, c132, c133, c134, c135, c136, c137, c138, c139, c140, c141, c142, c143, c144, c145, c146, c147, c148, c149, c150, c151, c152, c153, d154, d155, d156, d157, d158, d159, d160, d161, d162, d163, d164, d165, d166, d167, d168, d169, d170, d171, d172, d173, d174, d175, d176, d177, d178, d179, d180, d181, d182, d183, d184, d185, d186, d187, d188, d189, d190, d191, d192, d193, d194, d195, d196, d197, d198, d199, d200, d201, d202, d203, d204, d205, d206, d207, c208, c209, c210, c211, c212, c213, c214, c215, c216, c217, c218, c219, c220, c221, c222, c223, c224, c225, c226, c227, c228, c229, c230, c231, c232, c233, c234, c235, c236, c237, c238, c239, c240, c241, c242, c243, c244, c245, c246, c247, c248, c249, c250], []⟩ W') :
    Code.wp Try.prog playTail Q ⟨#[.int .i64 N, .slice (some ⟨b, off, none⟩) n cap, c2, c3, c4, .int .i64 K, .pointer (some ⟨L.p, 0, none⟩), c7, .slice (some ⟨BW, 0, none⟩) K K, .slice (some ⟨BN, 0, none⟩) K K, .int .i64 s.steps, .int .i64 s.who, .pointer (some ⟨BL, 0, none⟩), .int .i64 k, .pointer (some ⟨BA, 0, none⟩), .bool true, .int .u64 (s.wd a), .int .u64 v, .int .i64 0, c19, c20, c21, c22, c23, c24, c25, c26, c27, c28, c29, c30, c31, c32, c33, c34, c35, c36, c37, c38, c39, c40, c41, c42, c43, c44, c45, c46, c47, c48, c49, c50, c51, c52, c53, c54, c55, c56, c57, c58, c59, c60, c61, c62, c63, c64, c65, c66, c67, c68, c69, c70, c71, c72, c73, c74, c75, c76, c77, c78, c79, c80, c81, c82, c83, c84, c85, c86, c87, c88, c89, c90, c91, c92, c93, c94, c95, c96, c97, c98, c99, c100, c101, c102, c103, c104, c105, c106, c107, c108, c109, c110, c111, c112, c113, c114, c115, c116, c117, c118, c119, c120, c121, c122, c123, c124, c125, c126, c127, c128, c129, c130, c131, c132, c133, c134, c135, c136, c137, c138, c139, c140, c141, c142, c143, c144, c145, c146, c147, c148, c149, c150, c151, c152, c153, c154, c155, c156, c157, c158, c159, c160, c161, c162, c163, c164, c165, c166, c167, c168, c169, c170, c171, c172, c173, c174, c175, c176, c177, c178, c179, c180, c181, c182, c183, c184, c185, c186, c187, c188, c189, c190, c191, c192, c193, c194, c195, c196, c197, c198, c199, c200, c201, c202, c203, c204, c205, c206, c207, c208, c209, c210, c211, c212, c213, c214, c215, c216, c217, c218, c219, c220, c221, c222, c223, c224, c225, c226, c227, c228, c229, c230, c231, c232, c233, c234, c235, c236, c237, c238, c239, c240, c241, c242, c243, c244, c245, c246, c247, c248, c249, c250], []⟩ wr := by
  have d1 := bk6.d1
  have d2 := bk6.d2
  have d3 := bk6.d3
  have cW := bk6.ws.cell (i := a) (by omega)
  have fW := bk6.ws.frozen
  have cN := bk6.ns.cell (i := a) (by omega)
  have fN := bk6.ns.frozen
  have l0 := blk_cell (o := 0) bk6.ls rfl
  have l1 := blk_cell (o := 1) bk6.ls rfl
  have l2 := blk_cell (o := 2) bk6.ls rfl
  have fL := blk_frozen bk6.ls
  have hvv := HV.out
  have hwr : IntKind.i64.wrap (s.steps + 1) = s.steps + 1 := by rw [IntKind.wrap_i64]; omega
  have HQ : Hid _ := hQ
  clear hQ
  conv => arg 2; whnf
  go_wp2
  refine wp_region_tail 10 (by kernel_rfl) (by kernel_rfl) ?_
  simp only [List.take_succ_cons, List.take_zero, List.drop_succ_cons, List.drop_zero]
  repeat still_step
  refine wpStill_nil ?_
  go_wp2
  refine wp_over (fun W => MemAt W L (s.step a v) ∧ Book W BW BN BL (s.step a v) ∧ Below w.heap.size w W ∧ W.cell? ⟨BA, 1, none⟩ = some (.int .i64 a))
    ⟨MemAt.drew ((((h6.other (a := ⟨BW, a, none⟩) nW _).other (a := ⟨BL, 0, none⟩) nL _).other (a := ⟨BL, 1, none⟩) nL _).other (a := ⟨BL, 2, none⟩) nL _), (bk6.same a v HV.out).of_blocks rfl rfl rfl, Below.drew ((((b6.setCell (p := ⟨BW, a, none⟩) gW _).setCell (p := ⟨BL, 0, none⟩) gL _).setCell (p := ⟨BL, 1, none⟩) gL _).setCell (p := ⟨BL, 2, none⟩) gL _), by go_simp⟩ ?_
  clear h6 bk6 b6 cW fW cN fN l0 l1 l2 fL p16
  rintro W1 ⟨h7, bk7, b7, p7⟩
  have l0 : W1.cell? ⟨BL, 0, none⟩ = some (.int .i64 a) := blk_cell bk7.ls rfl
  have l1 : W1.cell? ⟨BL, 1, none⟩ = some (.int .i64 s.who) := blk_cell bk7.ls rfl
  have lc : (s.step a v).lc = false := by have := HV.out; simp [Mm.step, this]
  have l2 : W1.cell? ⟨BL, 2, none⟩ = some (.bool false) := by rw [← lc]; exact blk_cell bk7.ls rfl
  have n0 := fun n : Later W1 => n.cell l0
  have n1 := fun n : Later W1 => n.cell l1
  have n2 := fun n : Later W1 => n.cell l2
  have n3 := fun n : Later W1 => n.cell p7
  have st : (s.step a v).steps = s.steps + 1 := HST.out
  have ev : (s.step a v).wd a = v := upd_same _ _ _
  have ST : Hid ((s.step a v).steps = s.steps + 1) := st
  have EV : Hid ((s.step a v).wd a = v) := ev
  have LC : Hid ((s.step a v).lc = false) := lc
  clear l0 l1 l2 p7 st ev lc
  haveI := Later.exists W1
  have hcmp := touch_neq
  refine wp_region_later (by kernel_rfl) (by kernel_rfl) ?_
  repeat (go_big_quiet_step ((first
    | (go_at_call 15; exact Calls.later_same (steps_eq (h7.below (Later.below _)) _ ST.out))
    | (go_at_call 16; exact Calls.later (last_eq (h7.below (Later.below _)) (a : Int) s.who _ rfl rfl LC.out))
    | (go_at_call 17; exact Calls.later_same (peek_eq (h7.below (Later.below _)) a (show a < s.n by omega) v EV.out)))))
  refine wpQuiet_nil ?_
  intro _ hw'
  obtain ⟨nq, hw''⟩ := hw'
  subst hw''
  clear n0 n1 n2 n3
  go_wp2
  exact HQ.out _ _ _ _ _ _ _ _ _ _ _ _ _ _ _ _ _ _ _ _ _ _ _ _ _ _ _ _ _ _ _ _ _ _ _ _ _ _ _ _ _ _ _ _ _ _ _ _ _ _ _ _ _ _ _ _ _ _ ⟨s.step a v, by rw [ST.out], rfl, h7.below nq.below, bk7.below nq.below, hsn, by rw [ST.out]; omega, by rw [ST.out]; omega, grow b7 nq.below⟩

end Go.Proofs.Ytmndmialhhbogaa
