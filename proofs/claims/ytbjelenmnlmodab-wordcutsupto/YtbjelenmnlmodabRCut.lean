/-
  What the call Cut (the document) gives: pieces, each a new row of its own.
-/
import Derived.Test.YtbjelenmnlmodabCut
import Derived.Deep.AppendLies
namespace Go.Proofs.Ytbjelenmnlmodab
open Go.RowKit
set_option linter.unusedVariables false
namespace LW
open Words Pcs
/-- The document's pieces that are done: each a row of its own, from block B on, none of them 'own'. -/
def Done (B : Nat) (zs : List Int) (n j : Nat) (ps : List Value) (W : World) (own : Option Nat) : Prop :=
  ps.length = j ∧ ∀ q, q < j → ∃ g cap cur, ps[q]? = some (.slice (some ⟨g, 0, none⟩) (pl zs.length n q) cap) ∧ B ≤ g ∧ own ≠ some g ∧ W.heap[g]? = some (.cells cur 5 (0, 0)) ∧
    ∀ t, t < pl zs.length n q → cur[t]? = some (.int .u8 (zs.getD (q * n + t) 0))
theorem lt_of_heap {w : World} {g : Nat} {o : Obj} (h : w.heap[g]? = some o) : g < w.heap.size := by
  rcases Nat.lt_or_ge g w.heap.size with h' | h'
  · exact h'
  · rw [Array.getElem?_eq_none h'] at h; cases h
/-- A byte is appended to the piece in hand. -/
theorem Done.grow {B n j : Nat} {zs : List Int} {ps : List Value} {W W' : World} {own : Option Nat} {o : Obj} {g : Nat} (h : Done B zs n j ps W own) (hg : (W.alloc o).grownBy W' own) (hat : own = some g ∨ g = W.heap.size + 1) : Done B zs n j ps W' (some g) := by
  refine ⟨h.1, fun q hq => ?_⟩
  obtain ⟨g', cap, cur, h1, h2, h3, h4, h5⟩ := h.2 q hq
  have hlt := lt_of_heap h4
  refine ⟨g', cap, cur, h1, h2, ?_, ?_, h5⟩
  · intro e
    cases e
    rcases hat with hat | hat
    · exact h3 hat
    · omega
  · rw [hg.block g' (by simp; omega) (Ne.symm h3), Below.heap_alloc _ _ _ hlt]; exact h4
/-- The piece in hand is done. -/
theorem Done.snoc {B n j : Nat} {zs : List Int} {ps : List Value} {W W' : World} {g cap len0 : Nat} {cur : Array Value} {o : Obj} {own6 : Option Nat} (h : Done B zs n j ps W (some g)) (hl : pl zs.length n j = len0) (hB : B ≤ g) (hcur : W.heap[g]? = some (.cells cur 5 (0, 0)))
    (hc : ∀ t, t < len0 → cur[t]? = some (.int .u8 (zs.getD (j * n + t) 0))) (hg : (W.alloc o).grownBy W' own6) (h6 : ∀ k, own6 = some k → ∃ c6, (W.alloc o).heap[k]? = some (.cells c6 22 (0, 0))) :
    Done B zs n (j + 1) (ps ++ [.slice (some ⟨g, 0, none⟩) len0 cap]) W' none := by
  have keep : ∀ (g' : Nat) (cur' : Array Value), W.heap[g']? = some (Obj.cells cur' 5 (0, 0)) → W'.heap[g']? = some (Obj.cells cur' 5 (0, 0)) := by
    intro g' cur' h4
    have hlt := lt_of_heap h4
    rw [hg.block g' (by simp; omega) ?_, Below.heap_alloc _ _ _ hlt]
    · exact h4
    · intro e
      obtain ⟨c6, h7⟩ := h6 g' e.symm
      rw [Below.heap_alloc _ _ _ hlt, h4] at h7
      simp at h7
  refine ⟨by simp [h.1], fun q hq => ?_⟩
  by_cases hqj : q < j
  · obtain ⟨g', cap', cur', h1, h2, h3, h4, h5⟩ := h.2 q hqj
    exact ⟨g', cap', cur', by rw [List.getElem?_append_left (by rw [h.1]; exact hqj)]; exact h1, h2, by simp, keep _ _ h4, h5⟩
  · obtain rfl : q = j := by omega
    refine ⟨g, cap, cur, ?_, hB, by simp, keep _ _ hcur, by rw [hl]; exact hc⟩
    rw [List.getElem?_append_right (by rw [h.1]; exact Nat.le_refl _), h.1, Nat.sub_self, hl]
    rfl
theorem Done.free {B n j : Nat} {zs : List Int} {ps : List Value} {W : World} {own : Option Nat} (h : Done B zs n j ps W own) : Done B zs n j ps W none := by
  refine ⟨h.1, fun q hq => ?_⟩
  obtain ⟨g', cap, cur, h1, h2, h3, h4, h5⟩ := h.2 q hq
  exact ⟨g', cap, cur, h1, h2, by simp, h4, h5⟩
theorem own_cur {w : World} {B g n cap t : Nat} {xs : List Value} (h : w.ownsRow B t 1 (.slice (some ⟨g, 0, none⟩) n cap) n xs) : ∃ cur, w.heap[g]? = some (.cells cur t (0, 0)) ∧ B ≤ g ∧ ∀ i, i < n → cur[i]? = xs[i]? := by
  rcases h.2 with ⟨h', _⟩ | ⟨g', cap', cur, h', hb, hg, hnc, _, hcs, htake⟩
  · simp at h'
  · simp only [Value.slice.injEq, Option.some.injEq, Addr.mk.injEq, and_true, true_and] at h'
    obtain ⟨rfl, rfl⟩ := h'
    refine ⟨cur, hg, hb, fun i hi => ?_⟩
    rw [← htake, List.getElem?_take, if_pos (by omega)]
    simp
theorem own_type {w : World} {B n : Nat} {v : Value} {xs : List Value} (h : w.ownsRow B 22 1 v n xs) : ∀ k, v.ownBlock = some k → ∃ c6, w.heap[k]? = some (.cells c6 22 (0, 0)) := by
  intro k hk
  rcases h.2 with ⟨rfl, _⟩ | ⟨g, cap, cur, rfl, hg, hh, _⟩
  · simp [Value.ownBlock] at hk
  · simp [Value.ownBlock] at hk; subst hk; exact ⟨cur, hh⟩
theorem take_drop_snoc (zs : List Int) (o p : Nat) (h : o + p < zs.length) : (zs.drop o).take (p + 1) = (zs.drop o).take p ++ [zs.getD (o + p) 0] := by
  rw [take_snoc _ _ (by simp; omega)]
  simp [List.getD_eq_getElem?_getD, List.getElem?_drop]
theorem own_blk {w : World} {B n : Nat} {v : Value} {xs : List Value} {t : TypeId} (h : w.ownsRow B t 1 v n xs) : ∀ k, v.ownBlock = some k → B ≤ k := by
  intro k hk
  rcases h.2 with ⟨rfl, _⟩ | ⟨g, cap, cur, rfl, hg, _⟩
  · simp [Value.ownBlock] at hk
  · simp [Value.ownBlock] at hk; omega
/-- The spine is kept while a byte is appended to a piece. -/
theorem own22_kept {w w' : World} {B j p : Nat} {u6 u7 : Value} {ps xs : List Value} {o : Obj} (h6 : w.ownsRow B 22 1 u6 j ps) (h7 : w.ownsRow B 5 1 u7 p xs) (hg : (w.alloc o).grownBy w' u7.ownBlock) : w'.ownsRow B 22 1 u6 j ps := by
  refine ⟨h6.1, ?_⟩
  rcases h6.2 with h | ⟨g, cap, cur, e, hb, hh, r⟩
  · exact .inl h
  · refine .inr ⟨g, cap, cur, e, hb, ?_, r⟩
    have hlt := lt_of_heap hh
    rw [hg.block g (by simp; omega) ?_, Below.heap_alloc _ _ _ hlt]
    · exact hh
    · intro e7
      rcases h7.2 with ⟨rfl, _⟩ | ⟨g', cap', cur', rfl, _, hh', _⟩
      · simp [Value.ownBlock] at e7
      · simp [Value.ownBlock] at e7
        subst e7
        rw [hh] at hh'
        simp at hh'
set_option maxRecDepth 100000 in
set_option maxHeartbeats 1600000 in
theorem rcut (a : Option Addr) (cap : Nat) (zs : List Int) (n : Nat) (w : World) (hz : Byt zs) (hr : Row w a zs) (hn : 1 ≤ n) (hnm : n ≤ 9223372036854775807) (hm : zs.length ≤ 1048576) :
    Calls Try.prog 10 #[.slice a zs.length cap, .int .i64 n] w fun e w' => ∃ v ps, e = .returned (.tuple #[v, .int .i64 0]) ∧
      w'.ownsRow w.heap.size 22 1 v (pc zs.length n) ps ∧ Done w.heap.size zs n (pc zs.length n) ps w' none ∧ Below w.heap.size w w' := by
  obtain ⟨i0, hi, hz0, hz1, hz2⟩ := info_parts info5
  obtain ⟨i2, hi2, hy0, hy1, hy2⟩ := info_parts info22
  have hpl := fun j => pc_iff zs.length n j hn
  have hle := pc_le zs.length n hn
  have hcl : ∀ k, k < zs.length → ∃ b off, a = some ⟨b, off, none⟩ ∧ ∀ W, Below w.heap.size w W → W.cell? ⟨b, off + k, none⟩ = some (.int .u8 (zs.getD k 0)) := by
    intro k hk
    rcases hr with rfl | ⟨b, off, rfl, hc⟩
    · simp at hk
    · exact ⟨b, off, rfl, fun W hW => by rw [hW.cell (lt_of_cell (hc k hk))]; exact hc k hk⟩
  have hsn := take_drop_snoc zs
  obtain ⟨len, hlen⟩ : ∃ len, zs.length = len := ⟨_, rfl⟩
  rw [hlen] at hpl hle hm hcl hsn ⊢
  have HLEN := TW.hide hlen
  have HPL := TW.hide hpl
  have HCL := TW.hide hcl
  have HSN := TW.hide hsn
  have HZ := TW.hide hz
  have hn1 : ¬ (n : Int) < 1 := by omega
  clear hlen hpl hcl hsn hr hz
  go_enter Try.func10, Try.ntmps10
  go_wp2
  go_loopw [6, 7, 8] (fun t6 t7 i wr => ∃ (k j p : Nat) (ps : List Value), k ≤ len ∧ i = .int .i64 k ∧ p < n ∧ j ≤ len ∧ (k < len → k = j * n + p) ∧ (k = len → j = pc len n ∧ p = 0) ∧ wr.ownsRow w.heap.size 22 1 t6 j ps ∧ wr.ownsRow w.heap.size 5 1 t7 p (vs ((zs.drop (j * n)).take p)) ∧ Done w.heap.size zs n j ps wr t7.ownBlock ∧ Below w.heap.size w wr) (fun _ _ i _ => len - (intOf i).toNat)
  case atStart => exact ⟨0, 0, 0, [], Nat.zero_le _, rfl, hn, Nat.zero_le _, fun _ => by simp, fun h => ⟨by subst h; simp [pc], rfl⟩, World.ownsRow_nil _ _ _ _, World.ownsRow_nil _ _ _ _, ⟨rfl, fun q hq => absurd hq (Nat.not_lt_zero _)⟩, Below.refl _ _⟩
  case round =>
    obtain ⟨k, j, p, ps, hk, rfl, hp, hjl, hk1, hk2, hown6, hown7, hdone, hbel⟩ := hrel
    by_cases hlt : k < len
    · have hkj := hk1 hlt
      obtain ⟨b, off, ha, hc⟩ := HCL.out k hlt
      subst ha
      have hc := hc wr hbel
      have hs := HSN.out (j * n) p (by omega)
      rw [← hkj] at hs
      generalize zs.getD k 0 = z at *
      have HOW6 := TW.hide hown6
      have HOW7 := TW.hide hown7
      have HDN := TW.hide hdone
      have HBE := TW.hide hbel
      have HS := TW.hide hs
      have HKJ := TW.hide hkj
      have hwz := hbel.size
      have hjp : j < pc len n := (HPL.out j).2 (by omega)
      have tok1 : True := trivial
      have tok2 : True := trivial
      have hplen : p < len := by omega
      clear hown6 hown7 hdone hbel hs hkj hk1 hk2
      have VSX : Hid (vs ((zs.drop (j * n)).take (p + 1)) = vs ((zs.drop (j * n)).take p) ++ [.int .u8 z]) := by
        show vs ((zs.drop (j * n)).take (p + 1)) = _
        rw [HS.out, vs_append]; rfl
      by_cases h1 : p + 1 = n
      · have t1 : (((p : Int) + 1) == (n : Int)) = true := by simp; omega
        have HPP : Hid (pl len n j = p + 1) := by show min n (len - j * n) = p + 1; have := HKJ.out; omega
        have HR1 : Hid (k + 1 < len → k + 1 = (j + 1) * n + 0) := by
          intro _; rw [Nat.add_mul, Nat.one_mul]; have := HKJ.out; omega
        have HR2 : Hid (k + 1 = len → j + 1 = pc len n ∧ 0 = 0) := by
          intro h
          have h3 : ¬ j + 1 < pc len n := fun h4 => by
            have := (HPL.out (j + 1)).1 h4
            rw [Nat.add_mul, Nat.one_mul] at this
            have := HKJ.out; omega
          exact ⟨by omega, rfl⟩
        have H1 := TW.hide h1
        clear h1
        go_wp2_with (first | (at_builtin; have _t := tok1; refine wpList_append_lies _ rfl _ _ 22 rfl w.heap.size 5 i0 (.int .u8 0) 1 1 Try.underlying22 hi hz0 hz1 hz2 rfl (by decide) u7 p (vs ((zs.drop (j * n)).take p)) rfl (HOW7.out.alloc _) ⟨wr.heap.size, 0, none⟩ 1 1 [.int .u8 z] rfl rfl (one_new _ _) (by simp [Value.oneCell']) (by omega) (by unfold maxLen; omega) (by omega) (by simp; omega) (wr.heap.size + 1) (by simp) ?_; intro g7 c7 w5 hown5 hgrow5 hat5 hlt5; have O5 := TW.hide hown5; have D5 := TW.hide (HDN.out.grow hgrow5 hat5); have B5 : Hid (Below w.heap.size w w5) := (HBE.out.alloc HBE.out.size _).grown hgrow5 (by simp; omega) (own_block HOW7.out); have R5 : Hid (w5.ownsRow w.heap.size 22 1 u6 j ps) := own22_kept HOW6.out HOW7.out hgrow5; have hwz5 : w.heap.size ≤ w5.heap.size := B5.out.size; clear hown5 hgrow5 hat5 tok1) | (at_builtin; have _t := tok2; refine wpList_append_own _ rfl _ _ 24 rfl w.heap.size 22 i2 (.slice none 0 0) 1 24 Try.underlying24 hi2 hy0 hy1 hy2 rfl (by decide) u6 j ps rfl (R5.out.alloc _) ⟨w5.heap.size, 0, none⟩ 1 1 [.slice (some ⟨g7, 0, none⟩) (p + 1) c7] rfl rfl (one_new22 _ _) (by simp [Value.oneCell']) (by unfold maxLen; omega) (by omega) (by simp; omega) ?_; intro v6 w6 hown6 hgrow6 _; have O6 := TW.hide hown6; have G6 := TW.hide hgrow6; have B6 : Hid (Below w.heap.size w w6) := (B5.out.alloc hwz5 _).grown hgrow6 (by simp; omega) (own_blk R5.out); clear hown6 hgrow6 tok2))
        go_roundw
        case rel =>
          obtain ⟨cur, hc1, hc2, hc3⟩ := own_cur O5.out
          have hcells : ∀ t, t < p + 1 → cur[t]? = some (.int .u8 (zs.getD (j * n + t) 0)) := by
            intro t ht
            rw [hc3 t ht, ← VSX.out, vs_get _ _ (by simp; have := HLEN.out; have := HKJ.out; omega)]
            have : t < p + 1 := ht
            simp [List.getD_eq_getElem?_getD, List.getElem?_drop, this]
          refine ⟨k + 1, j + 1, 0, _, by omega, by go_num, hn, by omega, HR1.out, HR2.out, O6.out, World.ownsRow_nil _ _ _ _, D5.out.snoc (by rw [HLEN.out]; exact HPP.out) hc2 hc1 hcells G6.out (own_type (R5.out.alloc _)), B6.out⟩
        case measure => simp [intOf]; omega
      · by_cases h2 : k + 1 = len
        · have t1 : (((p : Int) + 1) == (n : Int)) = false := by simp; omega
          have t2 : ((k : Int) == (len : Int) - 1) = true := by simp; omega
          have HPP : Hid (pl len n j = p + 1) := by show min n (len - j * n) = p + 1; have := HKJ.out; omega
          have HR1 : Hid (k + 1 < len → k + 1 = (j + 1) * n + 0) := by
            intro _; omega
          have HR2 : Hid (k + 1 = len → j + 1 = pc len n ∧ 0 = 0) := by
            intro h
            have h3 : ¬ j + 1 < pc len n := fun h4 => by
              have := (HPL.out (j + 1)).1 h4
              rw [Nat.add_mul, Nat.one_mul] at this
              have := HKJ.out; omega
            exact ⟨by omega, rfl⟩
          have H1 := TW.hide h1
          have H2 := TW.hide h2
          clear h1 h2
          go_wp2_with (first | (at_builtin; have _t := tok1; refine wpList_append_lies _ rfl _ _ 22 rfl w.heap.size 5 i0 (.int .u8 0) 1 1 Try.underlying22 hi hz0 hz1 hz2 rfl (by decide) u7 p (vs ((zs.drop (j * n)).take p)) rfl (HOW7.out.alloc _) ⟨wr.heap.size, 0, none⟩ 1 1 [.int .u8 z] rfl rfl (one_new _ _) (by simp [Value.oneCell']) (by omega) (by unfold maxLen; omega) (by omega) (by simp; omega) (wr.heap.size + 1) (by simp) ?_; intro g7 c7 w5 hown5 hgrow5 hat5 hlt5; have O5 := TW.hide hown5; have D5 := TW.hide (HDN.out.grow hgrow5 hat5); have B5 : Hid (Below w.heap.size w w5) := (HBE.out.alloc HBE.out.size _).grown hgrow5 (by simp; omega) (own_block HOW7.out); have R5 : Hid (w5.ownsRow w.heap.size 22 1 u6 j ps) := own22_kept HOW6.out HOW7.out hgrow5; have hwz5 : w.heap.size ≤ w5.heap.size := B5.out.size; clear hown5 hgrow5 hat5 tok1) | (at_builtin; have _t := tok2; refine wpList_append_own _ rfl _ _ 24 rfl w.heap.size 22 i2 (.slice none 0 0) 1 24 Try.underlying24 hi2 hy0 hy1 hy2 rfl (by decide) u6 j ps rfl (R5.out.alloc _) ⟨w5.heap.size, 0, none⟩ 1 1 [.slice (some ⟨g7, 0, none⟩) (p + 1) c7] rfl rfl (one_new22 _ _) (by simp [Value.oneCell']) (by unfold maxLen; omega) (by omega) (by simp; omega) ?_; intro v6 w6 hown6 hgrow6 _; have O6 := TW.hide hown6; have G6 := TW.hide hgrow6; have B6 : Hid (Below w.heap.size w w6) := (B5.out.alloc hwz5 _).grown hgrow6 (by simp; omega) (own_blk R5.out); clear hown6 hgrow6 tok2))
          go_roundw
          case rel =>
            obtain ⟨cur, hc1, hc2, hc3⟩ := own_cur O5.out
            have hcells : ∀ t, t < p + 1 → cur[t]? = some (.int .u8 (zs.getD (j * n + t) 0)) := by
              intro t ht
              rw [hc3 t ht, ← VSX.out, vs_get _ _ (by simp; have := HLEN.out; have := HKJ.out; omega)]
              have : t < p + 1 := ht
              simp [List.getD_eq_getElem?_getD, List.getElem?_drop, this]
            refine ⟨k + 1, j + 1, 0, _, by omega, by go_num, hn, by omega, HR1.out, HR2.out, O6.out, World.ownsRow_nil _ _ _ _, D5.out.snoc (by rw [HLEN.out]; exact HPP.out) hc2 hc1 hcells G6.out (own_type (R5.out.alloc _)), B6.out⟩
          case measure => simp [intOf]; omega
        · have t1 : (((p : Int) + 1) == (n : Int)) = false := by simp; omega
          have t2 : ((k : Int) == (len : Int) - 1) = false := by simp; omega
          have H1 := TW.hide h1
          have H2 := TW.hide h2
          clear h1 h2
          go_wp2_with (at_builtin; have _t := tok1; refine wpList_append_lies _ rfl _ _ 22 rfl w.heap.size 5 i0 (.int .u8 0) 1 1 Try.underlying22 hi hz0 hz1 hz2 rfl (by decide) u7 p (vs ((zs.drop (j * n)).take p)) rfl (HOW7.out.alloc _) ⟨wr.heap.size, 0, none⟩ 1 1 [.int .u8 z] rfl rfl (one_new _ _) (by simp [Value.oneCell']) (by omega) (by unfold maxLen; omega) (by omega) (by simp; omega) (wr.heap.size + 1) (by simp) ?_; intro g7 c7 w5 hown5 hgrow5 hat5 hlt5; have O5 := TW.hide hown5; have D5 := TW.hide (HDN.out.grow hgrow5 hat5); have B5 : Hid (Below w.heap.size w w5) := (HBE.out.alloc HBE.out.size _).grown hgrow5 (by simp; omega) (own_block HOW7.out); have R5 : Hid (w5.ownsRow w.heap.size 22 1 u6 j ps) := own22_kept HOW6.out HOW7.out hgrow5; have hwz5 : w.heap.size ≤ w5.heap.size := B5.out.size; clear hown5 hgrow5 hat5 tok1)
          go_roundw
          case rel => exact ⟨k + 1, j, p + 1, ps, by omega, by go_num, by have := H1.out; omega, hjl, fun _ => by have := HKJ.out; omega, fun h => absurd h H2.out, R5.out, by rw [VSX.out]; exact O5.out, D5.out, B5.out⟩
          case measure => simp [intOf]; omega
    · obtain rfl : k = len := by omega
      obtain ⟨rfl, rfl⟩ := hk2 rfl
      have HOW6 := TW.hide hown6
      have HDN := TW.hide hdone
      have HBE := TW.hide hbel
      have HO7 : Hid (u7.ownBlock = none ∨ True) := .inr trivial
      have HW7 := TW.hide hown7
      clear hown6 hown7 hdone hbel hk1 hk2
      go_wp2_with fail
      go_ret2
      exact ⟨_, _, rfl, HOW6.out, HDN.out.free, HBE.out⟩
end LW
end Go.Proofs.Ytbjelenmnlmodab
