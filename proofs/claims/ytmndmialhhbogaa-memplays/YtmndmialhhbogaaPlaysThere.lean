/- The body of the loop of MemPlays, where something is done to a word that is there. -/
import Derived.Test.YtmndmialhhbogaaPlaysSame
import Derived.Test.YtmndmialhhbogaaPlaysNew
namespace Go.Proofs.Ytmndmialhhbogaa
open Go.RowKit

set_option maxRecDepth 20000 in
set_option maxHeartbeats 2000000 in
theorem play_there (Q : Exit → Act → World → Prop) (N : Int) (b off n cap K BW BN BL k : Nat) (L : Loc) (A : Acts) (s : Mm) (w wr : World) (c2 c3 c4 c7 c14 c15 c16 c17 c18 c19 c20 c21 c22 c23 c24 c25 c26 c27 c28 c29 c30 c31 c32 c33 c34 c35 c36 c37 c38 c39 c40 c41 c42 c43 c44 c45 c46 c47 c48 c49 c50 c51 c52 c53 c54 c55 c56 c57 c58 c59 c60 c61 c62 c63 c64 c65 c66 c67 c68 c69 c70 c71 c72 c73 c74 c75 c76 c77 c78 c79 c80 c81 c82 c83 c84 c85 c86 c87 c88 c89 c90 c91 c92 c93 c94 c95 c96 c97 c98 c99 c100 c101 c102 c103 c104 c105 c106 c107 c108 c109 c110 c111 c112 c113 c114 c115 c116 c117 c118 c119 c120 c121 c122 c123 c124 c125 c126 c127 c128 c129 c130 c131 c132 c133 c134 c135 c136 c137 c138 c139 c140 c141 c142 c143 c144 c145 c146 c147 c148 c149 c150 c151 c152 c153 c154 c155 c156 c157 c158 c159 c160 c161 c162 c163 c164 c165 c166 c167 c168 c169 c170 c171 c172 c173 c174 c175 c176 c177 c178 c179 c180 c181 c182 c183 c184 c185 c186 c187 c188 c189 c190 c191 c192 c193 c194 c195 c196 c197 c198 c199 c200 c201 c202 c203 c204 c205 c206 c207 c208 c209 c210 c211 c212 c213 c214 c215 c216 c217 c218 c219 c220 c221 c222 c223 c224 c225 c226 c227 c228 c229 c230 c231 c232 c233 c234 c235 c236 c237 c238 c239 c240 c241 c242 c243 c244 c245 c246 c247 c248 c249 c250 : Value)
    (hp : PlayIn w wr L s A b off n K BW BN BL k) (a : Nat) (ha0 : Hid (A.at_ k = (a : Int))) (haK : a < K) (hd9 : Hid (A.kind k = 0 ∨ A.kind k = 1 ∨ A.kind k = 2 ∨ A.kind k = 3))
    (hQ : ∀ (d4 d10 d11 d14 d15 d16 d17 d18 d19 d20 d21 d22 d23 d24 d25 d56 d57 d58 d59 d60 d61 d62 d63 d64 d65 d66 d67 d68 d69 d70 d71 d72 d73 d74 d75 d76 d77 d78 d79 d80 d81 d82 d83 d84 d85 d86 d87 d88 d89 d90 d91 d92 d93 d94 d95 d96 d97 d98 d99 d100 d101 d102 d103 d104 d105 d106 d107 d108 d109 d110 d111 d112 d113 d114 d115 d116 d117 d118 d119 d120 d121 d122 d123 d124 d125 d126 d127 d128 d129 d130 d131 d132 d133 d134 d135 d136 d137 d138 d139 d140 d141 d142 d143 d144 d145 d146 d147 d148 d149 d150 d151 d152 d153 d154 d155 d156 d157 d158 d159 d160 d161 d162 d163 d164 d165 d166 d167 d168 d169 d170 d171 d172 d173 d174 d175 d176 d177 d178 d179 d180 d181 d182 d183 d184 d185 d186 d187 d188 d189 d190 d191 d192 d193 d194 d195 d196 d197 d198 d199 d200 d201 d202 d203 d204 d205 d206 d207 : Value) (W' : World), PlayOut w W' L BW BN BL K k d10 d11 → Q .normal ⟨#[.int .i64 N, .slice (some ⟨b, off, none⟩) n cap, c2, c3, d4, .int .i64 K, .pointer (some ⟨L.p, 0, none⟩), c7, .slice (some ⟨BW, 0, none⟩) K K, .slice (some ⟨BN, 0, none⟩) K K, d10, d11, .pointer (some ⟨BL, 0, none⟩), .int .i64 k, d14, d15, d16, d17, d18, d19, d20, d21, d22, d23, d24, d25, c26, c27, c28, c29, c30, c31, c32, c33, c34, c35, c36, c37, c38, c39, c40, c41, c42, c43, c44, c45, c46, c47, c48, c49, c50, c51, c52, c53, c54, c55, d56, d57, d58, d59, d60, d61, d62, d63, d64, d65, d66, d67, d68, d69, d70, d71, d72, d73, d74, d75, d76, d77, d78, d79, d80, d81, d82, d83, d84, d85, d86, d87, d88, d89, d90, d91, d92, d93, d94, d95, d96, d97, d98, d99, d100, d101, d102, d103, d104, d105, d106, d107, d108, d109, d110, d111, d112, d113, d114, d115, d116, d117, d118, d119, d120, d121, d122, d123, d124, d125, d126, d127, d128, d129, d130, d131, d132, d133, d134, d135, d136, d137, d138, d139, d140, d141, d142, d143, d144, d145, d146, d147, d148, d149, d150, d151, d152, d153, d154, d155, d156, d157, d158, d159, d160, d161, d162, d163, d164, d165, d166, d167, d168, d169, d170, d171, d172, d173, d174, d175, d176, d177, d178, d179, d180, d181, d182, d183, d184, d185, d186, d187, d188, d189, d190, d191, d192, d193, d194, d195, d196, d197, d198, d199, d200, d201, d202, d203, d204, d205, d206, d207, c208, c209, c210, c211, c212, c213, c214, c215, c216, c217, c218, c219, c220, c221, c222, c223, c224, c225, c226, c227, c228, c229, c230, c231, c232, c233, c234, c235, c236, c237, c238, c239, c240, c241, c242, c243, c244, c245, c246, c247, c248, c249, c250], []⟩ W') :
    Code.wp Try.prog playBlock Q ⟨#[.int .i64 N, .slice (some ⟨b, off, none⟩) n cap, c2, c3, c4, .int .i64 K, .pointer (some ⟨L.p, 0, none⟩), c7, .slice (some ⟨BW, 0, none⟩) K K, .slice (some ⟨BN, 0, none⟩) K K, .int .i64 s.steps, .int .i64 s.who, .pointer (some ⟨BL, 0, none⟩), .int .i64 k, c14, c15, c16, c17, c18, c19, c20, c21, c22, c23, c24, c25, c26, c27, c28, c29, c30, c31, c32, c33, c34, c35, c36, c37, c38, c39, c40, c41, c42, c43, c44, c45, c46, c47, c48, c49, c50, c51, c52, c53, c54, c55, c56, c57, c58, c59, c60, c61, c62, c63, c64, c65, c66, c67, c68, c69, c70, c71, c72, c73, c74, c75, c76, c77, c78, c79, c80, c81, c82, c83, c84, c85, c86, c87, c88, c89, c90, c91, c92, c93, c94, c95, c96, c97, c98, c99, c100, c101, c102, c103, c104, c105, c106, c107, c108, c109, c110, c111, c112, c113, c114, c115, c116, c117, c118, c119, c120, c121, c122, c123, c124, c125, c126, c127, c128, c129, c130, c131, c132, c133, c134, c135, c136, c137, c138, c139, c140, c141, c142, c143, c144, c145, c146, c147, c148, c149, c150, c151, c152, c153, c154, c155, c156, c157, c158, c159, c160, c161, c162, c163, c164, c165, c166, c167, c168, c169, c170, c171, c172, c173, c174, c175, c176, c177, c178, c179, c180, c181, c182, c183, c184, c185, c186, c187, c188, c189, c190, c191, c192, c193, c194, c195, c196, c197, c198, c199, c200, c201, c202, c203, c204, c205, c206, c207, c208, c209, c210, c211, c212, c213, c214, c215, c216, c217, c218, c219, c220, c221, c222, c223, c224, c225, c226, c227, c228, c229, c230, c231, c232, c233, c234, c235, c236, c237, c238, c239, c240, c241, c242, c243, c244, c245, c246, c247, c248, c249, c250], []⟩ wr := by
  obtain ⟨q0, q1, q2, q3, q4, hs, hbk, hsn, hs0, hsk, hk8, hkn, hK9, hb, f1, nW, nN, nL, gW, gN, gL⟩ := hp
  have d1 := hbk.d1
  have d2 := hbk.d2
  have d3 := hbk.d3
  conv => arg 2; whnf
  go_upto_region 10 with fail
  obtain ⟨BA, hBA⟩ : ∃ BA, BA = wr.heap.size := ⟨_, rfl⟩
  have nA : ¬ L.has BA := fun h => by have := hs.lt BA h; omega
  have aW : BA ≠ BW := by have := hbk.ws.lt; omega
  have aN : BA ≠ BN := by have := hbk.ns.lt; omega
  have aL : BA ≠ BL := by have := blk_lt hbk.ls; omega
  have gA : w.heap.size ≤ BA := by have := hb.size; omega
  rw [← hBA]
  refine wp_over (fun W => W.heap[BA]? = some (.cells #[.int .i64 (A.kind k), .int .i64 (A.at_ k), .int .i64 (A.who k), .int .u64 (A.w k), .bool (A.lie k)] 34 (0, 0)) ∧ MemAt W L s ∧ Book W BW BN BL s ∧ Below w.heap.size w W)
    ⟨by rw [hBA]; exact Go.Deep.blk_alloc_new _ _, hs.alloc _, hbk.below (grow_alloc (Below.refl _ _) _), grow_alloc hb _⟩ ?_
  clear q0 q1 q2 q3 q4 hs hbk hb hBA
  rintro W0 ⟨pA, hs, hbk, hb⟩
  have p0 : W0.cell? ⟨BA, 0, none⟩ = some (.int .i64 (A.kind k)) := blk_cell pA rfl
  have p1 : W0.cell? ⟨BA, 1, none⟩ = some (.int .i64 (A.at_ k)) := blk_cell pA rfl
  have p2 : W0.cell? ⟨BA, 2, none⟩ = some (.int .i64 (A.who k)) := blk_cell pA rfl
  have p3 : W0.cell? ⟨BA, 3, none⟩ = some (.int .u64 (A.w k)) := blk_cell pA rfl
  have p4 : W0.cell? ⟨BA, 4, none⟩ = some (.bool (A.lie k)) := blk_cell pA rfl
  have PA : Hid (W0.heap[BA]? = some (.cells #[.int .i64 (A.kind k), .int .i64 (A.at_ k), .int .i64 (A.who k), .int .u64 (A.w k), .bool (A.lie k)] 34 (0, 0))) := pA
  have HQ : Hid _ := hQ
  clear pA hQ
  have ha := ha0.out
  have cw := hbk.ws.cell (i := a) (by omega)
  rw [ha] at p1 PA
  have HST : Hid (wrap64 (s.steps + 1) = s.steps + 1) := IntWalk.wrap64_in _ ⟨by omega, by omega⟩
  go_upto_block 2 with fail
  go_cut [11, 17, 18, 77] from 56 to 207 (fun x11 x17 x18 _ wx => ∃ v : Int, x11 = .int .i64 s.who ∧ x17 = .int .u64 v ∧ x18 = .int .i64 0 ∧ MemAt wx L (s.step a v) ∧ Only L.has W0 wx)
  case first =>
    rcases hd9.out with hd | hd | hd | hd
    · go_wp2_with (go_at_call 10; refine (load_in hs a (by omega)).mono ?_; rintro e w6 ⟨rfl, h6, o6, _⟩)
      go_meet
      exact ⟨s.wd a, rfl, rfl, rfl, h6, o6⟩
    · go_wp2_with (go_at_call 11; refine (store_in hs a (by omega) _).mono ?_; rintro e w6 ⟨rfl, h6, o6, _⟩)
      go_meet
      exact ⟨A.w k, rfl, rfl, rfl, h6, o6⟩
    · cases hl : A.lie k with
      | true =>
        rw [hl] at p4
        have hne : Hid (¬ s.wd a = IntKind.u64.wrap (s.wd a + 1)) := fun h => by rw [IntKind.wrap_u64] at h; omega
        go_wp2_with (go_at_call 12; refine (cas_in hs a (by omega) _ _).mono ?_; rintro e w6 ⟨rfl, h6, o6, _⟩; rw [decide_eq_false hne.out]; rw [Mm.cas, if_neg hne.out] at h6; have p46 := o6.keep nA p4)
        go_meet
        exact ⟨s.wd a, rfl, rfl, rfl, h6, o6⟩
      | false =>
        rw [hl] at p4
        go_wp2_with (go_at_call 12; refine (cas_in hs a (by omega) _ _).mono ?_; rintro e w6 ⟨rfl, h6, o6, _⟩; rw [decide_eq_true rfl]; rw [Mm.cas, if_pos rfl] at h6; have p46 := o6.keep nA p4)
        go_meet
        exact ⟨A.w k, rfl, rfl, rfl, h6, o6⟩
    · go_wp2_with (go_at_call 13; refine (add_in hs a (by omega) _).mono ?_; rintro e w6 ⟨rfl, h6, o6, _⟩)
      go_meet
      exact ⟨_, rfl, rfl, rfl, h6, o6⟩
  case rest =>
    clear cw p0 p1 p2 p3 p4
    obtain ⟨v, rfl, rfl, rfl, h6, o6⟩ := hcut
    have p16 : wc.cell? ⟨BA, 1, none⟩ = some (.int .i64 a) := o6.keep nA (blk_cell PA.out rfl)
    by_cases hv : s.wd a = v
    · (apply_assumption; exact tail_same _ N b off n cap K BW BN BL k L s w wc _ _ _ _ _ _ _ _ _ _ _ _ _ _ _ _ _ _ _ _ _ _ _ _ _ _ _ _ _ _ _ _ _ _ _ _ _ _ _ _ _ _ _ _ _ _ _ _ _ _ _ _ _ _ _ _ _ _ _ _ _ _ _ _ _ _ _ _ _ _ _ _ _ _ _ _ _ _ _ _ _ _ _ _ _ _ _ _ _ _ _ _ _ _ _ _ _ _ _ _ _ _ _ _ _ _ _ _ _ _ _ _ _ _ _ _ _ _ _ _ _ _ _ _ _ _ _ _ _ _ _ _ _ _ _ _ _ _ _ _ _ _ _ _ _ _ _ _ _ _ _ _ _ _ _ _ _ _ _ _ _ _ _ _ _ _ _ _ _ _ _ _ _ _ _ _ _ _ _ _ _ _ _ _ _ _ _ _ _ _ _ _ _ _ _ _ _ _ _ _ _ _ _ _ _ _ _ _ _ _ _ _ _ _ _ _ _ _ _ _ _ _ _ _ _ _ _ _ _ _ _ _ _ _ _ _ a BA v haK hv HST h6 (hbk.only o6 nW nN nL) (grow_only hb f1 o6) p16 hsn hs0 hsk hk8 nW nL gW gL aW aN aL (fun d4 d10 d16 d154 d155 d156 d157 d158 d159 d160 d161 d162 d163 d164 d165 d166 d167 d168 d169 d170 d171 d172 d173 d174 d175 d176 d177 d178 d179 d180 d181 d182 d183 d184 d185 d186 d187 d188 d189 d190 d191 d192 d193 d194 d195 d196 d197 d198 d199 d200 d201 d202 d203 d204 d205 d206 d207 W' ho => HQ.out d4 d10 _ _ _ d16 _ _ _ _ _ _ _ _ _ _ _ _ _ _ _ _ _ _ _ _ _ _ _ _ _ _ _ _ _ _ _ _ _ _ _ _ _ _ _ _ _ _ _ _ _ _ _ _ _ _ _ _ _ _ _ _ _ _ _ _ _ _ _ _ _ _ _ _ _ _ _ _ _ _ _ _ _ _ _ _ _ _ _ _ _ _ _ _ _ _ _ _ _ _ _ _ _ _ _ _ _ _ _ _ _ _ _ d154 d155 d156 d157 d158 d159 d160 d161 d162 d163 d164 d165 d166 d167 d168 d169 d170 d171 d172 d173 d174 d175 d176 d177 d178 d179 d180 d181 d182 d183 d184 d185 d186 d187 d188 d189 d190 d191 d192 d193 d194 d195 d196 d197 d198 d199 d200 d201 d202 d203 d204 d205 d206 d207 W' ho))
    · (apply_assumption; exact tail_new _ N b off n cap K BW BN BL k L s w wc _ _ _ _ _ _ _ _ _ _ _ _ _ _ _ _ _ _ _ _ _ _ _ _ _ _ _ _ _ _ _ _ _ _ _ _ _ _ _ _ _ _ _ _ _ _ _ _ _ _ _ _ _ _ _ _ _ _ _ _ _ _ _ _ _ _ _ _ _ _ _ _ _ _ _ _ _ _ _ _ _ _ _ _ _ _ _ _ _ _ _ _ _ _ _ _ _ _ _ _ _ _ _ _ _ _ _ _ _ _ _ _ _ _ _ _ _ _ _ _ _ _ _ _ _ _ _ _ _ _ _ _ _ _ _ _ _ _ _ _ _ _ _ _ _ _ _ _ _ _ _ _ _ _ _ _ _ _ _ _ _ _ _ _ _ _ _ _ _ _ _ _ _ _ _ _ _ _ _ _ _ _ _ _ _ _ _ _ _ _ _ _ _ _ _ _ _ _ _ _ _ _ _ _ _ _ _ _ _ _ _ _ _ _ _ _ _ _ _ _ _ _ _ _ _ _ _ _ _ _ _ _ _ _ _ _ a BA v haK hv HST h6 (hbk.only o6 nW nN nL) (grow_only hb f1 o6) p16 hsn hs0 hsk hk8 nW nN nL gW gN gL aW aN aL (fun d4 d10 d16 d154 d155 d156 d157 d158 d159 d160 d161 d162 d163 d164 d165 d166 d167 d168 d169 d170 d171 d172 d173 d174 d175 d176 d177 d178 d179 d180 d181 d182 d183 d184 d185 d186 d187 d188 d189 d190 d191 d192 d193 d194 d195 d196 d197 d198 d199 d200 d201 d202 d203 d204 d205 d206 d207 W' ho => HQ.out d4 d10 _ _ _ d16 _ _ _ _ _ _ _ _ _ _ _ _ _ _ _ _ _ _ _ _ _ _ _ _ _ _ _ _ _ _ _ _ _ _ _ _ _ _ _ _ _ _ _ _ _ _ _ _ _ _ _ _ _ _ _ _ _ _ _ _ _ _ _ _ _ _ _ _ _ _ _ _ _ _ _ _ _ _ _ _ _ _ _ _ _ _ _ _ _ _ _ _ _ _ _ _ _ _ _ _ _ _ _ _ _ _ _ d154 d155 d156 d157 d158 d159 d160 d161 d162 d163 d164 d165 d166 d167 d168 d169 d170 d171 d172 d173 d174 d175 d176 d177 d178 d179 d180 d181 d182 d183 d184 d185 d186 d187 d188 d189 d190 d191 d192 d193 d194 d195 d196 d197 d198 d199 d200 d201 d202 d203 d204 d205 d206 d207 W' ho))

end Go.Proofs.Ytmndmialhhbogaa
