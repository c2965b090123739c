/- Words of the reference's Sum256, and its loop of rounds. -/
import Derived.Test.YthcfolefdalaiaaDoorRefFull
import Derived.Test.YthcfolefdalaiaaDoorRun32
import Derived.Test.YthcfolefdalaiaaDoorMove
import Derived.Test.YthcfolefdalaiaaDoorSum32
namespace Go.Proofs.YthcfolefdalaiaaDoor
open Go.RowKit Go.Sort
set_option maxRecDepth 100000
set_option linter.unusedSimpArgs false
set_option linter.unusedVariables false

theorem info_u32 : (Tryd.prog.info? 58).map (fun i => (i.zero, i.size, i.bytes)) = some (some (.int .u32 0), 1, 4) := by kernel_rfl
/-- Words as cells. -/
def wcells32 (l : List Int) : List Value := l.map (Value.int .u32)
theorem wcells32_length (l : List Int) : (wcells32 l).length = l.length := by simp [wcells32]
theorem wcells32_snoc (l : List Int) (x : Int) : wcells32 l ++ [.int .u32 x] = wcells32 (l ++ [x]) := by simp [wcells32]
def iniL32 (H : Nat → Int) (n : Nat) : List Int := (List.range n).map fun j => H j / 4294967296 % 4294967296
theorem iniL32_snoc (H : Nat → Int) (n : Nat) : iniL32 H (n + 1) = iniL32 H n ++ [H n / 4294967296 % 4294967296] := by simp [iniL32, List.range_succ]

/-- What lies where while the blocks are gone through: the constants, the state, the message. -/
structure RInv32 (W3 W : World) (B Hb Sb : Nat) (st : W8) (L : List UInt8) : Prop where
  k : ∀ t, t < 80 → W.cell? ⟨B, t, none⟩ = some (.int .u64 (kf t))
  h : ∀ j, j < 8 → W.cell? ⟨Hb, j, none⟩ = some (.int .u32 (st.at j))
  f : ∀ j, j < 8 → W.frozen? ⟨Hb, j, none⟩ = false
  s : ∀ j x, L[j]? = some x → W.cell? ⟨Sb, j, none⟩ = some (.int .u8 x.toNat)
  but : But Hb W3 W
  lB : B < Hb
  lH : Hb < W3.heap.size
  lS : Sb < W3.heap.size
  ne : Sb ≠ Hb
theorem RInv32.step {W3 W W' : World} {B Hb Sb : Nat} {st : W8} {L : List UInt8} (i : RInv32 W3 W B Hb Sb st L) (hb : Below W3.heap.size W W') : RInv32 W3 W' B Hb Sb st L := by
  have lH := i.lH; have lB := i.lB; have lS := i.lS
  exact ⟨fun t ht => (hb.cell (by simp; omega)).trans (i.k t ht), fun j hj => (hb.cell (by simpa using lH)).trans (i.h j hj), fun j hj => (hb.frozen (by simpa using lH)).trans (i.f j hj), fun j x hj => (hb.cell (by simpa using lS)).trans (i.s j x hj),
   ⟨hb.os.trans i.but.os, hb.tape.trans i.but.tape, hb.output.trans i.but.output, Nat.le_trans i.but.size hb.size, fun k hk hne => (hb.block k hk).trans (i.but.block k hk hne)⟩, lB, lH, lS, i.ne⟩

/-- The message is whole blocks. -/
theorem pad_blocks64 (n : Nat) : ∃ q, n + (padL 64 8 n).length = 64 * q ∧ 0 < q := by
  refine ⟨(n + (padL 64 8 n).length) / 64, ?_, ?_⟩ <;> simp only [padL, List.length_cons, List.length_append, List.length_replicate, be_length] <;> omega

theorem RInv32.set {W3 W : World} {B Hb Sb : Nat} {st st' : W8} {L : List UInt8} (i : RInv32 W3 W B Hb Sb st L) (k : Nat) (hk : k < 8) (x : Int) (h1 : st'.at k = x) (h2 : ∀ j, j < 8 → j ≠ k → st'.at j = st.at j) : RInv32 W3 (W.setCell ⟨Hb, k, none⟩ (.int .u32 x)) B Hb Sb st' L := by
  have lB := i.lB; have ne := i.ne
  refine ⟨fun t ht => (World.cell?_setCell_far _ _ _ _ (by simp; omega)).trans (i.k t ht), fun j hj => ?_, fun j hj => by rw [World.frozen?_setCell]; exact i.f j hj, fun j y hj => (World.cell?_setCell_far _ _ _ _ (by simpa using ne.symm)).trans (i.s j y hj), i.but.trans (.setCell Hb _ _ _ rfl), lB, i.lH, i.lS, ne⟩
  by_cases hjk : j = k
  · subst hjk
    rw [h1]
    exact World.cell?_setCell_same _ _ _ (i.h j hj)
  · rw [h2 j hj hjk, ← i.h j hj]
    exact World.cell?_setCell_other _ _ _ _ (by first | (simp; done) | (simp; omega) | (intro e; cases e; exact hjk rfl))
def mixS (s t : W8) (k : Nat) : W8 := ⟨if 0 < k then (s.a + t.a) % 4294967296 else s.a, if 1 < k then (s.b + t.b) % 4294967296 else s.b, if 2 < k then (s.c + t.c) % 4294967296 else s.c, if 3 < k then (s.d + t.d) % 4294967296 else s.d, if 4 < k then (s.e + t.e) % 4294967296 else s.e, if 5 < k then (s.f + t.f) % 4294967296 else s.f, if 6 < k then (s.g + t.g) % 4294967296 else s.g, if 7 < k then (s.h + t.h) % 4294967296 else s.h⟩
theorem mixS_at (s t : W8) (k : Nat) (hk : k < 8) : (mixS s t (k + 1)).at k = (s.at k + t.at k) % 4294967296 ∧ (mixS s t k).at k = s.at k ∧ ∀ j, j < 8 → j ≠ k → (mixS s t (k + 1)).at j = (mixS s t k).at j := by
  refine ⟨?_, ?_, fun j hj hne => ?_⟩
  · rcases lt8 hk with rfl | rfl | rfl | rfl | rfl | rfl | rfl | rfl <;> rfl
  · rcases lt8 hk with rfl | rfl | rfl | rfl | rfl | rfl | rfl | rfl <;> rfl
  · rcases lt8 hk with rfl | rfl | rfl | rfl | rfl | rfl | rfl | rfl <;> rcases lt8 hj with rfl | rfl | rfl | rfl | rfl | rfl | rfl | rfl <;> first | exact absurd rfl hne | rfl
/-- The eight words of a round, and the schedule's words, in memory. -/
structure VInv32 (W : World) (E V Wb : Nat) (r : W8) (ws : List Int) : Prop where
  v : ∀ j, j < 8 → W.cell? ⟨V, j, none⟩ = some (.int .u32 (r.at j))
  w : ∀ j, j < 64 → W.cell? ⟨Wb, j, none⟩ = some (.int .u32 (ws.getD j 0))
  lV : E ≤ V
  lW : E ≤ Wb
theorem VInv32.step {W W' : World} {E V Wb : Nat} {r : W8} {ws : List Int} (i : VInv32 W E V Wb r ws) (hb : Below W.heap.size W W') : VInv32 W' E V Wb r ws :=
  ⟨fun j hj => (hb.cell (block_lt_of_cell (i.v j hj))).trans (i.v j hj), fun j hj => (hb.cell (block_lt_of_cell (i.w j hj))).trans (i.w j hj), i.lV, i.lW⟩
theorem VInv32.set {W : World} {E V Wb Hb : Nat} {r : W8} {ws : List Int} (i : VInv32 W E V Wb r ws) (h : Hb < E) (k : Nat) (x : Value) : VInv32 (W.setCell ⟨Hb, k, none⟩ x) E V Wb r ws := by
  have lV := i.lV; have lW := i.lW
  exact ⟨fun j hj => (World.cell?_setCell_far _ _ _ _ (by simp; omega)).trans (i.v j hj), fun j hj => (World.cell?_setCell_far _ _ _ _ (by simp; omega)).trans (i.w j hj), lV, lW⟩

theorem four_new (w : World) (a b c d : Value) (t : TypeId) : ∀ j u, [a, b, c, d][j]? = some u → (w.alloc (.cells #[a, b, c, d] t)).cell? ((⟨w.heap.size, 0, none⟩ : Addr).add j) = some u := fun j u hj => by
  rw [Addr.add_lit, Nat.zero_add, cell_of_row _ _ _ _ _ _ (blk_new w _)]
  simpa using hj
theorem mixS_eight (s t : W8) : mixS s t 8 = add32 s t := rfl
theorem mixS_zero (s t : W8) : mixS s t 0 = s := rfl
theorem dig32_four (s : W8) (k : Nat) (hk : k < 8) : (dig32 s).take (4 * (k + 1)) = (dig32 s).take (4 * k) ++ [wbyte (s.at k) 24, wbyte (s.at k) 16, wbyte (s.at k) 8, wbyte (s.at k) 0] := by
  have h0 := dig32_snoc s k 0 hk (by omega)
  have h1 := dig32_snoc s k 1 hk (by omega)
  have h2 := dig32_snoc s k 2 hk (by omega)
  have h3 := dig32_snoc s k 3 hk (by omega)
  rw [show 4 * (k + 1) = 4 * k + 3 + 1 by omega, h3, show 4 * k + 3 = 4 * k + 2 + 1 by omega, h2, show 4 * k + 2 = 4 * k + 1 + 1 by omega, h1, show 4 * k + 1 = 4 * k + 0 + 1 by omega, h0]
  simp

theorem or_bytes32 (a b c d : UInt8) : bits .or .u32 (bits .or .u32 (bits .or .u32 ((a.toNat : Int) % 4294967296 * 16777216 % 4294967296) ((b.toNat : Int) % 4294967296 * 65536 % 4294967296)) ((c.toNat : Int) % 4294967296 * 256 % 4294967296)) ((d.toNat : Int) % 4294967296) = ld32 [a, b, c, d] := by
  have ha := UInt8.toNat_lt a; have hb := UInt8.toNat_lt b; have hc := UInt8.toNat_lt c; have hd := UInt8.toNat_lt d
  have e1 : bits .or .u32 (bits .or .u32 (bits .or .u32 ((a.toNat : Int) % 4294967296 * 16777216 % 4294967296) ((b.toNat : Int) % 4294967296 * 65536 % 4294967296)) ((c.toNat : Int) % 4294967296 * 256 % 4294967296)) ((d.toNat : Int) % 4294967296) = (a.toNat : Int) * 16777216 + (b.toNat : Int) * 65536 + (c.toNat : Int) * 256 + (d.toNat : Int) := by
    generalize a.toNat = a at *; generalize b.toNat = b at *; generalize c.toNat = c at *; generalize d.toNat = d at *
    rw [show (a : Int) % 4294967296 = a by omega, show (b : Int) % 4294967296 = b by omega, show (c : Int) % 4294967296 = c by omega, show (d : Int) % 4294967296 = d by omega]
    go_bits2
  have e2 : ld32 [a, b, c, d] = (a.toNat : Int) * 16777216 + (b.toNat : Int) * 65536 + (c.toNat : Int) * 256 + (d.toNat : Int) := by
    simp only [ld32, List.foldl_cons, List.foldl_nil]
    generalize a.toNat = a at *; generalize b.toNat = b at *; generalize c.toNat = c at *; generalize d.toNat = d at *
    have q1 : bits .or .u32 (0 * 256 % 4294967296) ((a : Int) % 4294967296) = (a : Int) := by go_bits2
    rw [q1]
    have q2 : bits .or .u32 ((a : Int) * 256 % 4294967296) ((b : Int) % 4294967296) = (a : Int) * 256 + b := by go_bits2
    rw [q2]
    have q3 : bits .or .u32 (((a : Int) * 256 + b) * 256 % 4294967296) ((c : Int) % 4294967296) = ((a : Int) * 256 + b) * 256 + c := by go_bits2
    rw [q3]
    have q4 : bits .or .u32 ((((a : Int) * 256 + b) * 256 + c) * 256 % 4294967296) ((d : Int) % 4294967296) = (((a : Int) * 256 + b) * 256 + c) * 256 + d := by go_bits2
    rw [q4]
    omega
  rw [e1, e2]
/-- Four bytes of a block's. -/
theorem four_bytes (L : List UInt8) (a k : Nat) (x0 x1 x2 x3 : UInt8) (hk : k < 16) (h0 : L[a + 4 * k]? = some x0) (h1 : L[a + 4 * k + 1]? = some x1) (h2 : L[a + 4 * k + 2]? = some x2) (h3 : L[a + 4 * k + 3]? = some x3) :
    ((((L.drop a).take 64).drop (k * 4)).take 4) = [x0, x1, x2, x3] := by
  apply List.ext_getElem?
  intro j
  rw [List.getElem?_take, List.getElem?_drop, List.getElem?_take, List.getElem?_drop]
  rcases (by omega : j = 0 ∨ j = 1 ∨ j = 2 ∨ j = 3 ∨ 4 ≤ j) with rfl | rfl | rfl | rfl | hj
  · rw [if_pos (by omega), if_pos (by omega), show a + (k * 4 + 0) = a + 4 * k by omega, h0]; rfl
  · rw [if_pos (by omega), if_pos (by omega), show a + (k * 4 + 1) = a + 4 * k + 1 by omega, h1]; rfl
  · rw [if_pos (by omega), if_pos (by omega), show a + (k * 4 + 2) = a + 4 * k + 2 by omega, h2]; rfl
  · rw [if_pos (by omega), if_pos (by omega), show a + (k * 4 + 3) = a + 4 * k + 3 by omega, h3]; rfl
  · rw [if_neg (by omega), List.getElem?_eq_none (by simpa using hj)]
/-- The schedule's first words are the block's, and each later one follows. -/
theorem sch32_take (ws : List Int) (h : ws.length = 16) (n : Nat) : ∀ k, k < 16 → (sch32 ws n).take (k + 1) = (sch32 ws n).take k ++ [ws.getD k 0] := fun k hk => by
  have hpre : ∀ n, (sch32 ws n).take 16 = ws := by
    intro n
    induction n with
    | zero => simp [sch32, ← h]
    | succ n ih =>
      rw [sch32, List.take_append, ih, sch32_length _ h, show 16 - (16 + n) = 0 by omega]; simp
  have e : ∀ m, m ≤ 16 → (sch32 ws n).take m = ws.take m := fun m hm => by rw [← hpre n, List.take_take, Nat.min_eq_left hm, hpre n]
  rw [e _ (by omega), e _ (by omega), List.take_succ_eq_append_getElem (by omega)]
  simp [h, hk]
theorem sch32_take2 (ws : List Int) (h : ws.length = 16) (n k : Nat) (h1 : 16 ≤ k) (h2 : k < 16 + n) : (sch32 ws n).take (k + 1) = (sch32 ws n).take k ++ [ext32 ((sch32 ws n).take k) k] := by
  have hpre : ∀ d m, (sch32 ws (m + d)).take (16 + m) = sch32 ws m := by
    intro d
    induction d with
    | zero => intro m; simp [List.take_of_length_le, sch32_length _ h]
    | succ d ih =>
      intro m
      rw [← Nat.add_assoc, sch32, List.take_append, ih, sch32_length _ h, show 16 + m - (16 + (m + d)) = 0 by omega]; simp
  obtain ⟨m, rfl⟩ : ∃ m, k = 16 + m := ⟨k - 16, by omega⟩
  have e1 := hpre (n - m) m
  have e2 := hpre (n - (m + 1)) (m + 1)
  rw [show m + (n - m) = n by omega] at e1
  rw [show m + 1 + (n - (m + 1)) = n by omega] at e2
  rw [e1, show 16 + m + 1 = 16 + (m + 1) by omega, e2, sch32]


def loopsOf : Code → List Code
  | .loop c => c :: loopsOf c
  | .seq a b => loopsOf a ++ loopsOf b
  | .block _ c => loopsOf c
  | .scope c => loopsOf c
  | .cond _ a b => loopsOf a ++ loopsOf b
  | _ => []
noncomputable def body4 : Code := (loopsOf (Tryd.f17.body.getD .skip)).getD 3 .skip

set_option maxHeartbeats 1500000 in
set_option maxRecDepth 1000000 in
theorem loop4_32 {Q : Exit → Act → World → Prop} {W3 W : World} {B E Hb Sb Wb V0 cpw cv0 : Nat} {st : W8} {ws : List Int} {L : List UInt8} (HEq : Hid (W3.heap.size = E)) {c0 c1 c2 c4 c5 c6 c7 c8 c10 c11 c12 c13 c16 c17 c18 c19 c20 c21 c22 c23 c24 c25 c26 c27 c28 c29 c30 c31 c32 c33 c34 c35 c36 c37 c38 c39 c40 c41 c42 c43 c44 c45 c46 c47 c48 c49 c50 c51 c52 c53 c54 c55 c56 c57 c58 c59 c60 c61 c62 c63 c64 c65 c66 c67 c68 c69 c70 c71 c72 c73 c74 c75 c76 c77 c78 c79 c80 c81 c82 c83 c84 c85 c86 c87 c88 c89 c90 c91 c92 c93 c94 c95 c96 c97 c98 c99 c100 c101 c102 c103 c104 c105 c106 c107 c108 c109 c110 c111 c112 c113 c114 c115 c116 c117 c118 c119 c120 c121 c122 c123 c124 c125 c126 c127 c128 c129 c130 c131 c132 c133 c134 c135 c136 c137 c138 c139 c140 c141 c142 c143 c144 c145 c146 c147 c148 c149 c150 c151 c152 c153 c154 c155 c156 c157 c158 c159 c160 c161 c162 c163 c164 c165 c166 c167 c168 c169 c170 c171 c172 c173 c174 c175 c176 c177 c178 c179 c180 c181 c182 c183 c184 c185 c186 c187 c188 c189 c190 c191 c192 c193 c194 c195 c196 c197 c198 c199 c200 c201 c202 c203 c204 c205 c206 c207 c208 c209 c210 c211 c212 c213 c214 c215 c216 c217 c218 c219 c220 c221 c222 c223 c224 c225 c226 c227 c228 c229 c230 c231 c232 c233 c234 c235 c236 c237 c238 c239 c240 c241 c242 c243 c244 c245 c246 c247 c248 c249 c250 c251 c252 c253 c254 c255 c256 c257 c258 c259 c260 c261 c262 c263 c264 c265 c266 c267 c268 c269 c270 c271 c272 c273 c274 c275 c276 c277 c278 c279 c280 c281 c282 c283 c284 c285 c286 c287 c288 c289 c290 c291 c292 c293 c294 c295 c296 c297 c298 c299 c300 c301 c302 c303 c304 c305 c306 c307 c308 c309 c310 : Value} {c : Code} (hc : c = Code.loop body4)
    (hvi0 : VInv32 W E V0 Wb st ws) (hv0 : RInv32 W3 W B Hb Sb st L) (hsz0 : E ≤ W.heap.size)
    (hQ : ∀ (wr : World) (V cv : Nat) (r : W8) (u16 u17 u147 u148 u149 u150 u151 u152 u153 u154 u155 u156 u157 u158 u159 u160 u161 u162 u163 u164 u165 u166 u167 u168 u169 u170 u171 u172 u173 u174 u175 u176 u177 u178 u179 u180 u181 u182 u183 u184 u185 u186 u187 u188 u189 u190 u191 u192 u193 u194 u195 u196 u197 u198 u199 u200 u201 u202 u203 u204 u205 u206 u207 u208 u209 u210 u211 u212 u213 u214 u215 u216 u217 u218 u219 u220 u221 u222 u223 u224 u225 u226 u227 u228 u229 u230 u231 u232 u233 u234 u235 u236 u237 u238 u239 u240 u241 u242 u243 u244 u245 u246 u247 u248 u249 u250 u251 u252 u253 u254 u255 u256 u257 u258 u259 u260 u261 u262 : Value), Hid (rnds32 (fun t => kf t / 4294967296) (fun t => ws.getD t 0) st 64 = r) → VInv32 wr E V Wb r ws → RInv32 W3 wr B Hb Sb st L → E ≤ wr.heap.size → Q (Exit.exit 6) ⟨List.toArray (c0 :: c1 :: c2 :: (.slice (some ⟨B, 0, none⟩) 80 80) :: c4 :: c5 :: c6 :: c7 :: c8 :: (.slice (some ⟨Wb, 0, none⟩) 64 cpw) :: c10 :: c11 :: c12 :: c13 :: (.slice (some ⟨V, 0, none⟩) 8 cv) :: (.int .i64 64) :: u16 :: u17 :: c18 :: c19 :: c20 :: c21 :: c22 :: c23 :: c24 :: c25 :: c26 :: c27 :: c28 :: c29 :: c30 :: c31 :: c32 :: c33 :: c34 :: c35 :: c36 :: c37 :: c38 :: c39 :: c40 :: c41 :: c42 :: c43 :: c44 :: c45 :: c46 :: c47 :: c48 :: c49 :: c50 :: c51 :: c52 :: c53 :: c54 :: c55 :: c56 :: c57 :: c58 :: c59 :: c60 :: c61 :: c62 :: c63 :: c64 :: c65 :: c66 :: c67 :: c68 :: c69 :: c70 :: c71 :: c72 :: c73 :: c74 :: c75 :: c76 :: c77 :: c78 :: c79 :: c80 :: c81 :: c82 :: c83 :: c84 :: c85 :: c86 :: c87 :: c88 :: c89 :: c90 :: c91 :: c92 :: c93 :: c94 :: c95 :: c96 :: c97 :: c98 :: c99 :: c100 :: c101 :: c102 :: c103 :: c104 :: c105 :: c106 :: c107 :: c108 :: c109 :: c110 :: c111 :: c112 :: c113 :: c114 :: c115 :: c116 :: c117 :: c118 :: c119 :: c120 :: c121 :: c122 :: c123 :: c124 :: c125 :: c126 :: c127 :: c128 :: c129 :: c130 :: c131 :: c132 :: c133 :: c134 :: c135 :: c136 :: c137 :: c138 :: c139 :: c140 :: c141 :: c142 :: c143 :: c144 :: c145 :: c146 :: u147 :: u148 :: u149 :: u150 :: u151 :: u152 :: u153 :: u154 :: u155 :: u156 :: u157 :: u158 :: u159 :: u160 :: u161 :: u162 :: u163 :: u164 :: u165 :: u166 :: u167 :: u168 :: u169 :: u170 :: u171 :: u172 :: u173 :: u174 :: u175 :: u176 :: u177 :: u178 :: u179 :: u180 :: u181 :: u182 :: u183 :: u184 :: u185 :: u186 :: u187 :: u188 :: u189 :: u190 :: u191 :: u192 :: u193 :: u194 :: u195 :: u196 :: u197 :: u198 :: u199 :: u200 :: u201 :: u202 :: u203 :: u204 :: u205 :: u206 :: u207 :: u208 :: u209 :: u210 :: u211 :: u212 :: u213 :: u214 :: u215 :: u216 :: u217 :: u218 :: u219 :: u220 :: u221 :: u222 :: u223 :: u224 :: u225 :: u226 :: u227 :: u228 :: u229 :: u230 :: u231 :: u232 :: u233 :: u234 :: u235 :: u236 :: u237 :: u238 :: u239 :: u240 :: u241 :: u242 :: u243 :: u244 :: u245 :: u246 :: u247 :: u248 :: u249 :: u250 :: u251 :: u252 :: u253 :: u254 :: u255 :: u256 :: u257 :: u258 :: u259 :: u260 :: u261 :: u262 :: c263 :: c264 :: c265 :: c266 :: c267 :: c268 :: c269 :: c270 :: c271 :: c272 :: c273 :: c274 :: c275 :: c276 :: c277 :: c278 :: c279 :: c280 :: c281 :: c282 :: c283 :: c284 :: c285 :: c286 :: c287 :: c288 :: c289 :: c290 :: c291 :: c292 :: c293 :: c294 :: c295 :: c296 :: c297 :: c298 :: c299 :: c300 :: c301 :: c302 :: c303 :: c304 :: c305 :: c306 :: c307 :: c308 :: c309 :: c310 :: []), []⟩ wr) :
    Code.wp Tryd.prog c Q ⟨List.toArray (c0 :: c1 :: c2 :: (.slice (some ⟨B, 0, none⟩) 80 80) :: c4 :: c5 :: c6 :: c7 :: c8 :: (.slice (some ⟨Wb, 0, none⟩) 64 cpw) :: c10 :: c11 :: c12 :: c13 :: (.slice (some ⟨V0, 0, none⟩) 8 cv0) :: (.int .i64 0) :: c16 :: c17 :: c18 :: c19 :: c20 :: c21 :: c22 :: c23 :: c24 :: c25 :: c26 :: c27 :: c28 :: c29 :: c30 :: c31 :: c32 :: c33 :: c34 :: c35 :: c36 :: c37 :: c38 :: c39 :: c40 :: c41 :: c42 :: c43 :: c44 :: c45 :: c46 :: c47 :: c48 :: c49 :: c50 :: c51 :: c52 :: c53 :: c54 :: c55 :: c56 :: c57 :: c58 :: c59 :: c60 :: c61 :: c62 :: c63 :: c64 :: c65 :: c66 :: c67 :: c68 :: c69 :: c70 :: c71 :: c72 :: c73 :: c74 :: c75 :: c76 :: c77 :: c78 :: c79 :: c80 :: c81 :: c82 :: c83 :: c84 :: c85 :: c86 :: c87 :: c88 :: c89 :: c90 :: c91 :: c92 :: c93 :: c94 :: c95 :: c96 :: c97 :: c98 :: c99 :: c100 :: c101 :: c102 :: c103 :: c104 :: c105 :: c106 :: c107 :: c108 :: c109 :: c110 :: c111 :: c112 :: c113 :: c114 :: c115 :: c116 :: c117 :: c118 :: c119 :: c120 :: c121 :: c122 :: c123 :: c124 :: c125 :: c126 :: c127 :: c128 :: c129 :: c130 :: c131 :: c132 :: c133 :: c134 :: c135 :: c136 :: c137 :: c138 :: c139 :: c140 :: c141 :: c142 :: c143 :: c144 :: c145 :: c146 :: c147 :: c148 :: c149 :: c150 :: c151 :: c152 :: c153 :: c154 :: c155 :: c156 :: c157 :: c158 :: c159 :: c160 :: c161 :: c162 :: c163 :: c164 :: c165 :: c166 :: c167 :: c168 :: c169 :: c170 :: c171 :: c172 :: c173 :: c174 :: c175 :: c176 :: c177 :: c178 :: c179 :: c180 :: c181 :: c182 :: c183 :: c184 :: c185 :: c186 :: c187 :: c188 :: c189 :: c190 :: c191 :: c192 :: c193 :: c194 :: c195 :: c196 :: c197 :: c198 :: c199 :: c200 :: c201 :: c202 :: c203 :: c204 :: c205 :: c206 :: c207 :: c208 :: c209 :: c210 :: c211 :: c212 :: c213 :: c214 :: c215 :: c216 :: c217 :: c218 :: c219 :: c220 :: c221 :: c222 :: c223 :: c224 :: c225 :: c226 :: c227 :: c228 :: c229 :: c230 :: c231 :: c232 :: c233 :: c234 :: c235 :: c236 :: c237 :: c238 :: c239 :: c240 :: c241 :: c242 :: c243 :: c244 :: c245 :: c246 :: c247 :: c248 :: c249 :: c250 :: c251 :: c252 :: c253 :: c254 :: c255 :: c256 :: c257 :: c258 :: c259 :: c260 :: c261 :: c262 :: c263 :: c264 :: c265 :: c266 :: c267 :: c268 :: c269 :: c270 :: c271 :: c272 :: c273 :: c274 :: c275 :: c276 :: c277 :: c278 :: c279 :: c280 :: c281 :: c282 :: c283 :: c284 :: c285 :: c286 :: c287 :: c288 :: c289 :: c290 :: c291 :: c292 :: c293 :: c294 :: c295 :: c296 :: c297 :: c298 :: c299 :: c300 :: c301 :: c302 :: c303 :: c304 :: c305 :: c306 :: c307 :: c308 :: c309 :: c310 :: []), []⟩ W := by
  subst hc
  conv => arg 2; arg 1; whnf
  go_loopw [14, 15] (fun v t wr => ∃ (k V cv : Nat) (r : W8), k ≤ 64 ∧ t = .int .i64 k ∧ v = .slice (some ⟨V, 0, none⟩) 8 cv ∧ Hid (rnds32 (fun t => kf t / 4294967296) (fun t => ws.getD t 0) st k = r) ∧ VInv32 wr E V Wb r ws ∧ RInv32 W3 wr B Hb Sb st L ∧ E ≤ wr.heap.size) (fun _ t _ => 64 - (intOf t).toNat)
  case atStart => exact ⟨0, V0, cv0, st, by omega, rfl, rfl, Lib.hid rfl, hvi0, hv0, hsz0⟩
  case round =>
    clear hvi0 hv0 hsz0
    obtain ⟨k, V, cv, ⟨xa, xb, xc, xd, xe, xf, xg, xh⟩, hk, rfl, rfl, HR, hvi, hv, hsz⟩ := hrel
    have HVI := Lib.hid hvi; have HV := Lib.hid hv
    clear hvi hv
    by_cases hk64 : k < 64
    · have hd : decide ((k : Int) < 64) = true := by simp; omega
      have HSt := Lib.hid (show rnds32 (fun t => kf t / 4294967296) (fun t => ws.getD t 0) st (k + 1) = rnd32 ⟨xa, xb, xc, xd, xe, xf, xg, xh⟩ (kf k / 4294967296) (ws.getD k 0) from by rw [rnds32, HR.out])
      have ck := HV.out.k k (by omega)
      have cw := HVI.out.w k hk64
      have c4 := HVI.out.v 4 (by omega); have c5 := HVI.out.v 5 (by omega); have c6 := HVI.out.v 6 (by omega); have c7 := HVI.out.v 7 (by omega)
      simp only [W8.at] at c4 c5 c6 c7
      generalize kf k = xk at *
      generalize ws.getD k 0 = xw at *
      go_wp2_with fail
      have q4 := cell_regrown c4; have q5 := cell_regrown c5; have q6 := cell_regrown c6; have q7 := cell_regrown c7; have qk := cell_regrown ck; have qw := cell_regrown cw
      refine wp_region_reads (by kernel_rfl) (by kernel_rfl) ?_
      repeat (first | go_big_quiet_step ((go_at_call 40; exact Calls.regrown_of (right32_any _ _ _ (by omega) (by omega)))) | quiet_step ((go_at_call 40; exact Calls.regrown_of (right32_any _ _ _ (by omega) (by omega)))))
      refine wpQuiet_nil ?_
      intro W6 hb6
      replace HVI := Lib.hid (HVI.out.step hb6)
      have hbE6 : Below E wr W6 := hb6.mono hsz
      have hsz6 : E ≤ W6.heap.size := Nat.le_trans hsz hb6.size
      clear q4 q5 q6 q7 qk qw c4 c5 c6 c7 ck cw hb6
      have c0 := HVI.out.v 0 (by omega); have c1 := HVI.out.v 1 (by omega); have c2 := HVI.out.v 2 (by omega)
      simp only [W8.at] at c0 c1 c2
      go_wp2_with fail
      have q0 := cell_regrown c0; have q1 := cell_regrown c1; have q2 := cell_regrown c2
      refine wp_region_reads (by kernel_rfl) (by kernel_rfl) ?_
      repeat (first | go_big_quiet_step ((go_at_call 40; exact Calls.regrown_of (right32_any _ _ _ (by omega) (by omega)))) | quiet_step ((go_at_call 40; exact Calls.regrown_of (right32_any _ _ _ (by omega) (by omega)))))
      refine wpQuiet_nil ?_
      intro W7 hb7
      replace HVI := Lib.hid (HVI.out.step hb7)
      have hbE7 : Below E wr W7 := hbE6.trans (hb7.mono hsz6)
      have hsz7 : E ≤ W7.heap.size := Nat.le_trans hsz6 hb7.size
      clear q0 q1 q2 c0 c1 c2 hb7 hbE6 hsz6
      have c0 := HVI.out.v 0 (by omega); have c1 := HVI.out.v 1 (by omega); have c2 := HVI.out.v 2 (by omega); have c3 := HVI.out.v 3 (by omega); have c4 := HVI.out.v 4 (by omega); have c5 := HVI.out.v 5 (by omega); have c6 := HVI.out.v 6 (by omega)
      simp only [W8.at] at c0 c1 c2 c3 c4 c5 c6
      go_wp2_with fail
      have q0 := cell_regrown c0; have q1 := cell_regrown c1; have q2 := cell_regrown c2; have q3 := cell_regrown c3; have q4 := cell_regrown c4; have q5 := cell_regrown c5; have q6 := cell_regrown c6
      refine wp_region_reads_tail 26 (by kernel_rfl) (by kernel_rfl) ?_
      simp only [List.take_succ_cons, List.take_zero, List.drop_succ_cons, List.drop_zero]
      repeat (first | go_big_quiet_step (fail) | quiet_step (fail))
      refine wpQuiet_nil ?_
      intro W8' hb8
      replace HVI := Lib.hid (HVI.out.step hb8)
      have hbE8 : Below E wr W8' := hbE7.trans (hb8.mono hsz7)
      have hsz8 : E ≤ W8'.heap.size := Nat.le_trans hsz7 hb8.size
      clear q0 q1 q2 q3 q4 q5 q6 c0 c1 c2 c3 c4 c5 c6 hb8 hbE7 hsz7
      go_wp2_with fail
      go_roundw
      case rel =>
        refine ⟨k + 1, W8'.heap.size, 8, rnd32 ⟨xa, xb, xc, xd, xe, xf, xg, xh⟩ (xk / 4294967296) xw, by omega, by go_num, rfl, HSt, ?_, HV.out.step (by rw [HEq.out]; exact hbE8.alloc hsz8 _), by simp; omega⟩
        refine ⟨fun j hj => ?_, (HVI.out.step (below_new W8' _)).w, hsz8, HVI.out.lW⟩
        rw [cell_of_row _ _ _ _ _ _ (blk_new W8' _)]
        rcases lt8 hj with rfl | rfl | rfl | rfl | rfl | rfl | rfl | rfl
        · refine congrArg some (congrArg (Value.int .u32) ?_); simp only [rnd32, rot3_32, W8.at]
        · rfl
        · rfl
        · rfl
        · refine congrArg some (congrArg (Value.int .u32) ?_); simp only [rnd32, rot3_32, W8.at]
        · rfl
        · rfl
        · rfl
      case measure => simp [intOf]; omega
    · have hd : decide ((k : Int) < 64) = false := by simp; omega
      obtain rfl : k = 64 := by omega
      go_wp2_with fail
      exact hQ _ _ _ _ _ _ _ _ _ _ _ _ _ _ _ _ _ _ _ _ _ _ _ _ _ _ _ _ _ _ _ _ _ _ _ _ _ _ _ _ _ _ _ _ _ _ _ _ _ _ _ _ _ _ _ _ _ _ _ _ _ _ _ _ _ _ _ _ _ _ _ _ _ _ _ _ _ _ _ _ _ _ _ _ _ _ _ _ _ _ _ _ _ _ _ _ _ _ _ _ _ _ _ _ _ _ _ _ _ _ _ _ _ _ _ _ _ _ _ _ _ _ HR HVI.out HV.out hsz
end Go.Proofs.YthcfolefdalaiaaDoor
