/-
  What the law's call copied gives: the same parameters with bytes of their own.
-/
import Derived.Test.YtpcahieaakjaaaaPlain
import Derived.Test.YtpcahieaakjaaaaClone
namespace Go.Proofs.Ytpcahieaakjaaaa
open Go.RowKit
set_option linter.unusedVariables false
namespace LW
open Words
theorem own_below {w w' : World} {B n : Nat} {v : Value} {xs : List Value} (h : w.ownsRow B 5 1 v n xs) (hb : Below w.heap.size w w') : w'.ownsRow B 5 1 v n xs := by
  obtain ⟨h1, h2⟩ := h
  refine ⟨h1, ?_⟩
  rcases h2 with h2 | ⟨g, cap, cur, e, hg, hh, rest⟩
  · exact .inl h2
  · exact .inr ⟨g, cap, cur, e, hg, by rw [hb.block g (Array.getElem?_eq_some_iff.1 hh).1]; exact hh, rest⟩
theorem own_set {w : World} {B n p o : Nat} {v u : Value} {xs : List Value} (h : w.ownsRow B 5 1 v n xs) (hp : p < B) : (w.setCell ⟨p, o, none⟩ u).ownsRow B 5 1 v n xs := ownsRow_setCell_below h hp u
theorem own_mono' {w : World} {B B' n : Nat} {v : Value} {xs : List Value} (h : w.ownsRow B 5 1 v n xs) (hb : B' ≤ B) : w.ownsRow B' 5 1 v n xs :=
  ⟨h.1, h.2.imp id (fun ⟨g, cap, cur, e, hg, rest⟩ => ⟨g, cap, cur, e, Nat.le_trans hb hg, rest⟩)⟩
theorem blk_other {w : World} {g p o : Nat} {u : Value} {ob : Obj} (h : w.heap[g]? = some ob) (hne : g ≠ p) : (w.setCell ⟨p, o, none⟩ u).heap[g]? = some ob := by
  rw [Below.heap_setCell _ _ _ _ hne]; exact h
theorem own_set11 {w : World} {B n g : Nat} {v v0 v1 v2 v3 v4 v5 v6 v7 v8 v9 v10 : Value} {xs : List Value} (h : w.ownsRow B 5 1 v n xs) (hp : g < B) : ((((((((((((w.setCell ⟨g, 0, none⟩ v0).setCell ⟨g, 1, none⟩ v1).setCell ⟨g, 2, none⟩ v2).setCell ⟨g, 3, none⟩ v3).setCell ⟨g, 4, none⟩ v4).setCell ⟨g, 5, none⟩ v5).setCell ⟨g, 6, none⟩ v6).setCell ⟨g, 7, none⟩ v7).setCell ⟨g, 8, none⟩ v8).setCell ⟨g, 9, none⟩ v9).setCell ⟨g, 10, none⟩ v10)).ownsRow B 5 1 v n xs :=
  own_set (own_set (own_set (own_set (own_set (own_set (own_set (own_set (own_set (own_set (own_set h hp) hp) hp) hp) hp) hp) hp) hp) hp) hp) hp
theorem own_form {w : World} {B n : Nat} {v : Value} {xs : List Value} (h : w.ownsRow B 5 1 v n xs) : ∃ a cap, v = .slice a n cap := by
  rcases h.2 with ⟨rfl, rfl⟩ | ⟨g, cap, cur, rfl, _⟩
  · exact ⟨none, 0, rfl⟩
  · exact ⟨_, cap, rfl⟩
/-- 'append(nil, b...)', b nil or not: the same bytes in new memory. -/
theorem wpList_copy_row {w : World} {ops : Array Oper} {rest : List Oper} {o : Oper} {a : Act} {Q : Exit → Act → World → Prop} (hgd : o.guard = none) (s x : Operand)
    (ho : o.op = .call { callee := .builtin .append, args := #[s, x], argTypes := #[24, 24] }) (b : Option Addr) (cap : Nat) (zs : List Int) (len : Nat) (hlen : zs.length = len) (hs : a.eval s = .slice none 0 0) (hx : a.eval x = .slice b len cap)
    (hr : Row w b zs) (hn : b = none → cap = 0) (hm : len ≤ 140737488351232)
    (h : ∀ x' w', w'.ownsRow w.heap.size 5 1 x' len (vs zs) → Below w.heap.size w w' → wpList Try.prog ops Q rest (a.put o.dst x') w') : wpList Try.prog ops Q (o :: rest) a w := by
  obtain ⟨i0, hi, hz0, hz1, hz2⟩ := info_parts info5
  subst hlen
  cases b with
  | none =>
    obtain rfl := hn rfl
    obtain rfl : zs = [] := by rcases hr with h | ⟨b, off, h, _⟩ <;> first | exact h | cases h
    exact wpList_append_own_none hgd s x 24 ho w.heap.size 5 i0 1 Try.underlying24 hi _ 0 [] hs (World.ownsRow_nil _ _ _ _) hx (h _ _ (World.ownsRow_nil _ _ _ _) (Below.refl _ _))
  | some ad =>
    refine wpList_append_own _ hgd s x 24 ho w.heap.size 5 i0 (.int .u8 0) 1 1 Try.underlying24 hi hz0 hz1 hz2 rfl (by decide) _ 0 [] hs (World.ownsRow_nil _ _ _ _) ad zs.length cap (vs zs) hx (by rw [Nat.mul_one]; exact vs_length zs) (row_cells hr (Below.refl _ _)) (oneCell_vs zs) (by unfold maxLen; omega) (by omega) (Nat.le_refl _) ?_
    intro v' w2 hown' hgrow' _
    rw [Nat.zero_add] at hown'
    exact h _ _ hown' ((Below.refl _ _).grown hgrow' (Nat.le_refl _) (own_block (World.ownsRow_nil w w.heap.size 5 1)))
set_option maxRecDepth 20000 in
set_option maxHeartbeats 4000000 in
theorem copied (d k f dp lf off xof nd inn : Int) (sa ta : Option Addr) (sc tc : Nat) (s t : List Int) (w : World) (r1 : Row w sa s) (r2 : Row w ta t) (n1 : sa = none → sc = 0) (n2 : ta = none → tc = 0) (m1 : s.length ≤ 140737488351232) (m2 : t.length ≤ 140737488351232) :
    Calls Try.prog 10 #[.agg (pc d k f dp lf off xof nd inn (.slice sa s.length sc) (.slice ta t.length tc))] w fun e w' =>
      ∃ x y, e = .returned (.agg (pc d k f dp lf off xof nd inn x y)) ∧ w'.ownsRow w.heap.size 5 1 x s.length (vs s) ∧ w'.ownsRow w.heap.size 5 1 y t.length (vs t) ∧ Below w.heap.size w w' := by
  unfold pc
  generalize hsl : s.length = sl at *
  generalize htl : t.length = tl at *
  have hb := ((Below.refl w.heap.size w).alloc (Nat.le_refl _) (.cells #[.int .i64 d, .int .i64 k, .int .i64 f, .int .i64 dp, .int .u32 lf, .int .u64 off, .int .u32 xof, .int .i64 nd, .int .i64 inn, .slice sa sl sc, .slice ta tl tc] 26)).alloc (by simp) (.cells #[.int .i64 0, .int .i64 0, .int .i64 0, .int .i64 0, .int .u32 0, .int .u64 0, .int .u32 0, .int .i64 0, .int .i64 0, .slice none 0 0, .slice none 0 0] 26)
  have q0 := blk_alloc (o' := (.cells #[.int .i64 0, .int .i64 0, .int .i64 0, .int .i64 0, .int .u32 0, .int .u64 0, .int .u32 0, .int .i64 0, .int .i64 0, .slice none 0 0, .slice none 0 0] 26)) (heap_alloc_new w (.cells #[.int .i64 d, .int .i64 k, .int .i64 f, .int .i64 dp, .int .u32 lf, .int .u64 off, .int .u32 xof, .int .i64 nd, .int .i64 inn, .slice sa sl sc, .slice ta tl tc] 26))
  have q1 := heap_alloc_new (w.alloc (.cells #[.int .i64 d, .int .i64 k, .int .i64 f, .int .i64 dp, .int .u32 lf, .int .u64 off, .int .u32 xof, .int .i64 nd, .int .i64 inn, .slice sa sl sc, .slice ta tl tc] 26)) (.cells #[.int .i64 0, .int .i64 0, .int .i64 0, .int .i64 0, .int .u32 0, .int .u64 0, .int .u32 0, .int .i64 0, .int .i64 0, .slice none 0 0, .slice none 0 0] 26)
  rw [show (w.alloc (.cells #[.int .i64 d, .int .i64 k, .int .i64 f, .int .i64 dp, .int .u32 lf, .int .u64 off, .int .u32 xof, .int .i64 nd, .int .i64 inn, .slice sa sl sc, .slice ta tl tc] 26)).heap.size = w.heap.size + 1 by simp] at q1
  have HS := TW.hide hsl
  have HT := TW.hide htl
  have R1 := TW.hide r1
  have R2 := TW.hide r2
  have N1 := TW.hide n1
  have N2 := TW.hide n2
  clear hsl htl r1 r2 n1 n2
  go_enter Try.func10, Try.ntmps10
  refine wp_seq_k fun K hK => ?_
  have HK := TW.hide hK
  clear hK
  go_wp2
  refine HK.out _ _ ?_
  clear HK K
  generalize (w.alloc (.cells #[.int .i64 d, .int .i64 k, .int .i64 f, .int .i64 dp, .int .u32 lf, .int .u64 off, .int .u32 xof, .int .i64 nd, .int .i64 inn, .slice sa sl sc, .slice ta tl tc] 26)).alloc (.cells #[.int .i64 0, .int .i64 0, .int .i64 0, .int .i64 0, .int .u32 0, .int .u64 0, .int .u32 0, .int .i64 0, .int .i64 0, .slice none 0 0, .slice none 0 0] 26) = W at hb q0 q1 ⊢
  have c9 := blk_cell q0 (i := 9) (v := .slice sa sl sc) rfl
  have Q0 := TW.hide q0
  have Q1 := TW.hide q1
  have HB := TW.hide hb
  have hWs : w.heap.size + 1 < W.heap.size := blk_lt q1
  clear q0 q1 hb
  generalize Value.agg #[.int .i64 d, .int .i64 k, .int .i64 f, .int .i64 dp, .int .u32 lf, .int .u64 off, .int .u32 xof, .int .i64 nd, .int .i64 inn, .slice sa sl sc, .slice ta tl tc] = V0
  go_wp2_with (at_builtin; first
    | (refine wpList_copy_row rfl _ _ rfl sa sc s sl HS.out rfl rfl (R1.out.below HB.out) N1.out m1 ?_; intro x1 w2 ho1 hb1; obtain ⟨xa, xc, rfl⟩ := own_form ho1; have n2 := blk_keep Q0.out hb1; have k9 := blk_cell n2 (i := 9) (v := .slice sa sl sc) rfl; have k10 := blk_cell n2 (i := 10) (v := .slice ta tl tc) rfl; have z9 : w2.frozen? ⟨w.heap.size, 9, none⟩ = false := (by simp [World.frozen?, n2]); have M2 := TW.hide n2; have O1 := TW.hide ho1; have B1 := TW.hide hb1; clear n2 ho1 hb1 c9)
    | (refine wpList_copy_row rfl _ _ rfl ta tc t tl HT.out rfl rfl (R2.out.below ((HB.out.trans (B1.out.mono (by omega))).setCell (Nat.le_refl _) _)) N2.out m2 ?_; intro x2 w3 ho2 hb2; obtain ⟨ya, yc, rfl⟩ := own_form ho2; have n3 := blk_keep (blk_set (i := 9) (u := .slice xa sl xc) M2.out) hb2; have q3 := blk_keep (blk_other (p := w.heap.size) (o := 9) (u := .slice xa sl xc) (blk_keep Q1.out B1.out) (by omega)) hb2; obtain ⟨g0, g1, g2, g3, g4, g5, g6, g7, g8, g9, g10, z0, z1, z2, z3, z4, z5, z6, z7, z8, z9', z10⟩ := cells11 n3; obtain ⟨j0, j1, j2, j3, j4, j5, j6, j7, j8, j9, j10, y0, y1, y2, y3, y4, y5, y6, y7, y8, y9, y10⟩ := cells11 q3; have hne1 : w.heap.size + 1 ≠ w.heap.size := (by omega); have N3 := TW.hide n3; have Q3 := TW.hide q3; clear n3 q3 k9 k10 z9; have O2 := TW.hide ho2; have B2 := TW.hide hb2; clear ho2 hb2))
  have hz1 : W.heap.size ≤ w2.heap.size := B1.out.size
  have hz2 : (w2.setCell ⟨w.heap.size, 9, none⟩ (.slice xa sl xc)).heap.size = w2.heap.size := by simp [World.setCell]
  have ox := own_below (own_set (p := w.heap.size) (o := 9) (u := .slice xa sl xc) O1.out (by omega)) B2.out
  have oy := own_mono' (B' := W.heap.size) O2.out (by omega)
  have hbl : Below w.heap.size w w3 := ((HB.out.trans (B1.out.mono (by omega))).setCell (Nat.le_refl _) _).trans (B2.out.mono (by omega))
  refine bodyPost_ret (v := .agg #[.int .i64 d, .int .i64 k, .int .i64 f, .int .i64 dp, .int .u32 lf, .int .u64 off, .int .u32 xof, .int .i64 nd, .int .i64 inn, .slice xa sl xc, .slice ya tl yc]) (results_cell_row (P := Try.prog) Try.results10 _ _ (w.heap.size + 1) 26 _ (0, 0) _ rfl (blk_set11 (blk_other Q3.out hne1)) Try.underlying26 rfl (by kernel_rfl)) rfl ?_
  refine ⟨_, _, rfl, ?_, ?_, ?_⟩
  · exact own_mono' (own_set11 (own_set ox (by omega)) (by omega)) (by omega)
  · exact own_mono' (own_set11 (own_set oy (by omega)) (by omega)) (by omega)
  · exact below_set11 (hbl.setCell (Nat.le_refl _) _) (by omega)
end LW
end Go.Proofs.Ytpcahieaakjaaaa
