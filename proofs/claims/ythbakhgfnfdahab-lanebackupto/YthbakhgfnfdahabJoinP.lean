/-
  What the program's join gives: of lanes that some message was dealt to, that message.
-/
import Derived.Test.YthbakhgfnfdahabJoinL
import Derived.Test.YthbakhgfnfdahabWideP
namespace Go.Proofs.Ythbakhgfnfdahab
open Go.RowKit Go.ChangeShapes
set_option linter.unusedVariables false
set_option linter.unusedSimpArgs false
namespace LW
open Words
theorem chunk_eq (l : List Int) (f B : Nat) : (l.drop (min f l.length)).take (min (f + B) l.length - min f l.length) = (l.drop f).take B := by
  by_cases h : f ≤ l.length
  · rw [Nat.min_eq_left h, List.take_eq_take_iff, List.length_drop]
    omega
  · rw [List.drop_eq_nil_of_le (by omega), List.drop_eq_nil_of_le (by omega)]
    simp
set_option maxRecDepth 100000 in
set_option maxHeartbeats 4000000 in
theorem joinB (k d y : Int) (s p : Value) (b off c : Nat) (A : Nat → Option Addr) (K : Nat → Nat) (ls : Nat → List Int) (w : World) (hk : k = 1 ∨ k = 2) (h : Mb w b off (nl k) A K ls) (hd : Dealt (nl k) (bb k) ls) :
    Calls Try.prog 11 #[.agg (shC k d y s p), .slice (some ⟨b, off, none⟩) (nl k) c] w fun e w' => ∃ v, e = .returned v ∧ w'.ownsRow w.heap.size 5 1 v (sumN (fun r => (ls r).length) (nl k)) (vs (joL (nl k) (bb k) ls (sumN (fun r => (ls r).length) (nl k)))) ∧ Below w.heap.size w w' := by
  obtain ⟨i0, hi, hz0, hz1, hz2⟩ := info_parts info5
  have hKB := kb hk
  have hn8 : nl k ≤ 8 := by unfold nl; split <;> (try split) <;> omega
  have hl := fun W => lanes k d y s p W
  have hbb := fun W => blockBytes k d y s p W
  have ht := fun W (hW : Below w.heap.size w W) => totalOf b off (nl k) c A K ls W (h.below hW) hn8
  have hs := h.sum
  have hmb := fun W (hW : Below w.heap.size w W) => h.below hW
  have hlen := fun r (hr : r < nl k) => h.len hr
  have hJB := fun (r l : Nat) (hl : l < nl k) => joL_block (r := r) (l := l) hKB hd hl
  have hJL := joL_length (nl k) (bb k) ls (sumN (fun r => (ls r).length) (nl k))
  have h0 := hd 0 (by rcases hKB with ⟨h1, _⟩ | ⟨h1, _⟩ <;> omega)
  have hJE := fun (r : Nat) (hr : (ls 0).length ≤ r * bb k) => joL_end (r := r) hKB (by rw [← h0]; exact hr)
  have h512 : nl k * bb k = 512 ∧ 0 < bb k ∧ bb k ≤ 128 ∧ 0 < nl k := by rcases hKB with ⟨h1, h2⟩ | ⟨h1, h2⟩ <;> rw [h1, h2] <;> omega
  obtain ⟨T, hT⟩ : ∃ T, sumN (fun r => (ls r).length) (nl k) = T := ⟨_, rfl⟩
  rw [hT] at ht hs hJL ⊢
  simp only [hT] at hJB hJE
  obtain ⟨J, hJ⟩ : ∃ J, joL (nl k) (bb k) ls T = J := ⟨_, rfl⟩
  rw [hJ] at hJL ⊢
  simp only [hJ] at hJB
  have ET : Hid (0 < nl k) := h512.2.2.2
  generalize nl k = n at *
  generalize bb k = B at *
  have HL := TW.hide hl
  have HBB := TW.hide hbb
  have HT := TW.hide ht
  have HMB := TW.hide hmb
  have HLE := TW.hide hlen
  have HJB := TW.hide hJB
  have HJL := TW.hide hJL
  have HJE := TW.hide hJE
  obtain ⟨hn512, hB0, hB1, hn0⟩ := h512
  have HN5 := TW.hide hn512
  clear hl hbb ht hmb hlen hJB hJL hJE h hd hk hKB h0 hT hJ hn512 ET
  unfold shC at *
  go_enter Try.func11, Try.ntmps11
  refine wp_seq_k fun K0 hK => ?_
  have HK := TW.hide hK
  clear hK
  go_wp2
  refine HK.out _ _ ?_
  clear HK K0
  have n0 := heap_alloc_new w (.cells #[.int .i64 k, .int .i64 d, .int .i64 y, s, p] 36)
  have hb := (Below.refl w.heap.size w).alloc (Nat.le_refl _) (.cells #[.int .i64 k, .int .i64 d, .int .i64 y, s, p] 36)
  generalize w.alloc _ = W at n0 hb ⊢
  have hE := blk_lt n0
  have N0 := TW.hide n0
  have B0 := TW.hide hb
  clear n0 hb
  go_wp2_with fail
  refine (HT.out _ B0.out).mono ?_
  rintro e w1 ⟨rfl, rfl⟩
  go_wp2_with (at_make; refine wpList_make_own _ rfl _ _ 22 rfl (w.heap.size + 1) 5 i0 (.int .u8 0) 1 Try.underlying22 hi hz0 hz1 _ _ _ T rfl rfl rfl (by rw [hz2]; omega) (by unfold maxLen; omega) (by omega) ?_; intro w2 hown hgrow; have O2 := TW.hide hown; have N2 : Hid (w2.heap[w.heap.size]? = some (.cells #[.int .i64 k, .int .i64 d, .int .i64 y, s, p] 36 (0, 0))) := (by show _ = _; rw [hgrow.block _ hE (by simp)]; exact N0.out); have B2 : Hid (Below w.heap.size w w2) := B0.out.grown hgrow B0.out.size (by intro k h; cases h); clear hown hgrow)
  clear N0 B0
  generalize hv0 : Value.slice (some ⟨W.heap.size, 0, none⟩) 0 T = v0 at *
  clear hv0
  go_loopw [6, 5] (fun f dt wr => ∃ (r q : Nat), f = .int .i64 (q : Int) ∧ q = r * B ∧ q ≤ 1048576 + B ∧ wr.ownsRow (w.heap.size + 1) 5 1 dt (J.take (512 * r)).length (vs (J.take (512 * r))) ∧ wr.heap[w.heap.size]? = some (.cells #[.int .i64 k, .int .i64 d, .int .i64 y, s, p] 36 (0, 0)) ∧ Below w.heap.size w wr) (fun f _ _ => 1048576 + 256 - (intOf f).toNat)
  case atStart => exact ⟨0, 0, rfl, by omega, by omega, by simpa [vs] using O2.out, N2.out, B2.out⟩
  case round =>
    obtain ⟨r, q, rfl, hq, hq2, hown, hnb, hbl⟩ := hrel
    clear O2 N2 B2
    have O1 := TW.hide hown
    have N1 := TW.hide hnb
    have B1 := TW.hide hbl
    have hgs := blk_lt hnb
    have HQ := TW.hide hq
    clear hown hbl hq
    have c00 := (HMB.out wr B1.out).cell 0 hn0
    have hl00 := HLE.out 0 hn0
    obtain ⟨l00, hl0⟩ : ∃ l00, (ls 0).length = l00 := ⟨_, rfl⟩
    rw [hl0, Nat.add_zero] at c00
    rw [hl0] at hl00
    have HL0 := TW.hide hl0
    clear hl0
    have hnI : (0 : Int) < (n : Int) := by omega
    by_cases hql : q < l00
    · have hqI : (q : Int) < (l00 : Int) := by omega
      obtain ⟨c0, c1, c2, c3, c4⟩ := cells5 hnb
      clear hnb
      go_wp2_with fail
      refine (HL.out _).mono ?_
      rintro e w3 ⟨rfl, hb3⟩
      have O3 := TW.hide (own_below O1.out hb3)
      have N3 := TW.hide (blk_keep N1.out hb3)
      have B3 : Hid (Below w.heap.size w w3) := below_row B1.out hb3 B1.out.size
      clear hb3 O1 N1 B1 c0 c1 c2 c3 c4 c00
      go_wp2
      obtain ⟨wo, hwo⟩ : ∃ wo : World, wo = wr := ⟨_, rfl⟩
      subst hwo
      go_loopw [25, 5] (fun i dt wr => ∃ x : Nat, x ≤ n ∧ i = .int .i64 x ∧ wr.ownsRow (w.heap.size + 1) 5 1 dt (J.take (512 * r + x * B)).length (vs (J.take (512 * r + x * B))) ∧ wr.heap[w.heap.size]? = some (.cells #[.int .i64 k, .int .i64 d, .int .i64 y, s, p] 36 (0, 0)) ∧ Below w.heap.size w wr) (fun i _ _ => n - (intOf i).toNat)
      case atStart => exact ⟨0, Nat.zero_le _, rfl, by simpa using O3.out, N3.out, B3.out⟩
      case round =>
        obtain ⟨x, hx, rfl, hown, hnb, hbl⟩ := hrel
        clear O3 N3 B3
        have O1 := TW.hide hown
        have N1 := TW.hide hnb
        have B1 := TW.hide hbl
        have hgs := blk_lt hnb
        by_cases hxn : x < n
        · have M1 := HMB.out wr B1.out
          have cx := M1.cell x hxn
          have hlx := HLE.out x hxn
          have hroom := M1.room x hxn
          have hnil := M1.nil x hxn
          have hrow := M1.row x hxn
          obtain ⟨lx, hl0⟩ : ∃ lx, (ls x).length = lx := ⟨_, rfl⟩
          rw [hl0] at cx hlx hroom
          have HLX := TW.hide hl0
          clear hl0 M1
          have hxI : (0 : Int) ≤ (x : Int) := Int.natCast_nonneg _
          have hxJ : (x : Int) < (n : Int) := by omega
          obtain ⟨u, hu⟩ : ∃ u, min q lx = u := ⟨_, rfl⟩
          obtain ⟨z, hz⟩ : ∃ z, min (q + B) lx = z := ⟨_, rfl⟩
          have m1 : min (q : Int) (lx : Int) = (u : Int) := by omega
          have m2 : min ((q : Int) + (B : Int)) (lx : Int) = (z : Int) := by omega
          have wq : IntKind.i64.wrap ((q : Int) + (B : Int)) = (q : Int) + (B : Int) := by rw [IntKind.wrap_i64]; omega
          have huz : u ≤ z := by omega
          have hzl : z ≤ lx := by omega
          have HU := TW.hide hu
          have HZ := TW.hide hz
          have HNIL := TW.hide hnil
          have HROW := TW.hide hrow
          have hcb := lt_of_cell cx
          clear hu hz hnil hrow
          have HCH : Hid (((ls x).drop u).take (z - u) = ((ls x).drop (r * B)).take B) := by
            show _ = _
            have h1 := chunk_eq (ls x) q B
            rw [HLX.out, HU.out, HZ.out] at h1
            rw [h1, ← HQ.out]
          have HLC : Hid ((((ls x).drop u).take (z - u)).length = z - u) := by show _ = _; rw [List.length_take, List.length_drop, HLX.out]; omega
          obtain ⟨c0, c1, c2, c3, c4⟩ := cells5 hnb
          clear hnb hown hbl
          generalize A x = ax at *
          generalize K x = kx at *
          go_wp2
          go_region_held3 (fun w' => w'.cell? ⟨b, off + x, none⟩ = some (.slice ax lx kx) ∧ w'.cell? ⟨w.heap.size, 0, none⟩ = some (.int .i64 k) ∧ w'.cell? ⟨w.heap.size, 1, none⟩ = some (.int .i64 d) ∧ w'.cell? ⟨w.heap.size, 2, none⟩ = some (.int .i64 y) ∧ w'.cell? ⟨w.heap.size, 3, none⟩ = some s ∧ w'.cell? ⟨w.heap.size, 4, none⟩ = some p)
            (first | go_keep | (refine ⟨?_, ?_, ?_, ?_, ?_, ?_⟩ <;> rw [hb3.cell (lt_of_cell (w := wr) (by assumption))] <;> assumption))
            (first | (go_at_call 14; refine (HBB.out _).mono ?_; rintro e w3 ⟨rfl, hb3⟩))
          replace hb3 : Below wr.heap.size wr w3 := below_of_drew hb3
          have O3 := TW.hide (own_below O1.out hb3)
          have N3 := TW.hide (blk_keep N1.out hb3)
          have B3 : Hid (Below w.heap.size w w3) := below_row B1.out hb3 B1.out.size
          have R3 := TW.hide (HROW.out.below hb3)
          have cx3 : w3.cell? ⟨b, off + x, none⟩ = some (.slice ax lx kx) := by rw [hb3.cell hcb]; exact cx
          clear hb3 O1 N1 B1 c0 c1 c2 c3 c4 cx HROW
          have HJX : Hid (J.take (512 * r + (x + 1) * B) = J.take (512 * r + x * B) ++ ((ls x).drop u).take (z - u)) := by
            show _ = _
            rw [HCH.out]; exact HJB.out r x hxn
          have hJl : (J.take (512 * r + x * B)).length ≤ 1048576 := by rw [List.length_take, HJL.out]; omega
          have hbase : w.heap.size + 1 ≤ w3.heap.size := blk_lt N3.out
          have HFIN : Hid (∀ (x' : Value) (w4 : World), w4.ownsRow (w.heap.size + 1) 5 1 x' ((J.take (512 * r + x * B)).length + (z - u)) (vs (J.take (512 * r + x * B) ++ ((ls x).drop u).take (z - u))) → Below (w.heap.size + 1) w3 w4 →
              w4.ownsRow (w.heap.size + 1) 5 1 x' (J.take (512 * r + (x + 1) * B)).length (vs (J.take (512 * r + (x + 1) * B))) ∧ w4.heap[w.heap.size]? = some (.cells #[.int .i64 k, .int .i64 d, .int .i64 y, s, p] 36 (0, 0)) ∧ Below w.heap.size w w4) := by
            intro x' w4 ho hb4
            refine ⟨?_, ?_, ?_⟩
            · rw [HJX.out, List.length_append, HLC.out]; exact ho
            · rw [hb4.block _ (by omega)]; exact N3.out
            · exact B3.out.trans (hb4.mono (by omega))
          obtain ⟨ys, hys⟩ : ∃ ys, J.take (512 * r + x * B) = ys := ⟨_, rfl⟩
          obtain ⟨ch, hch⟩ : ∃ ch, ((ls x).drop u).take (z - u) = ch := ⟨_, rfl⟩
          rw [hys] at O3 HFIN hJl
          rw [hch] at HFIN HLC
          have RC : Hid (∀ (bx ox : Nat), ax = some ⟨bx, ox, none⟩ → Row w3 (some ⟨bx, ox + u, none⟩) ch) := by
            intro bx ox he
            rw [← hch]
            have h1 := R3.out
            rw [he] at h1
            exact h1.sub u (z - u) (by rw [HLX.out]; omega)
          have RE : Hid (lx = 0 ∨ ∃ bx ox, ax = some ⟨bx, ox, none⟩) := by
            rcases R3.out with h1 | ⟨bx, ox, h1, _⟩
            · left; have := HLX.out; rw [h1] at this; simpa using this.symm
            · exact .inr ⟨bx, ox, h1⟩
          clear hys hch R3 HJX HCH HJB
          have hu0 : (0 : Int) ≤ (u : Int) := Int.natCast_nonneg _
          have huz' : (u : Int) ≤ (z : Int) := by omega
          have hzk : (z : Int) ≤ (kx : Int) := by omega
          have RN : Hid (z - u = 0 → ch = []) := fun h => List.length_eq_zero_iff.1 (by rw [HLC.out]; exact h)
          have hz1048 : z - u ≤ 1048576 := by omega
          by_cases hlx0 : lx = 0
          · have hz0' : z = 0 := by omega
            have hu0' : u = 0 := by omega
            subst hz0'
            subst hu0'
            subst hlx0
            have HCE : Hid (ch = []) := RN.out rfl
            have HC0 : Hid (ch.length = 0) := by rw [HCE.out]; rfl
            cases ax with
            | none =>
              have hk0 : kx = 0 := HNIL.out rfl
              subst hk0
              go_wp2_with (at_builtin; refine wpList_copy_own rfl _ _ rfl u5 _ _ ch ys ys.length 0 HC0.out rfl O3.out rfl (.inl HCE.out) (fun _ => rfl) (by omega) (by omega) ?_)
              intro x' w4 ho hb4
              obtain ⟨h1, h2, h3⟩ := HFIN.out x' w4 (by simpa using ho) hb4
              have F1 := TW.hide h1
              have F2 := TW.hide h2
              have F3 := TW.hide h3
              clear h1 h2 h3 ho hb4
              go_wp2
              go_roundw
              case rel => exact ⟨x + 1, by omega, by go_num, F1.out, F2.out, F3.out⟩
              case measure => simp [intOf]; omega
            | some ad =>
              go_wp2_with (at_builtin; refine wpList_copy_own rfl _ _ rfl u5 _ _ ch ys ys.length 0 HC0.out rfl O3.out rfl (.inl HCE.out) (fun h => by cases h) (by omega) (by omega) ?_)
              intro x' w4 ho hb4
              obtain ⟨h1, h2, h3⟩ := HFIN.out x' w4 (by simpa using ho) hb4
              have F1 := TW.hide h1
              have F2 := TW.hide h2
              have F3 := TW.hide h3
              clear h1 h2 h3 ho hb4
              go_wp2
              go_roundw
              case rel => exact ⟨x + 1, by omega, by go_num, F1.out, F2.out, F3.out⟩
              case measure => simp [intOf]; omega
          · obtain ⟨bx, ox, rfl⟩ : ∃ bx ox, ax = some ⟨bx, ox, none⟩ := by
              rcases RE.out with h1 | h1
              · exact absurd h1 hlx0
              · exact h1
            by_cases hku : kx = u
            · have hzu : z = u := by omega
              have hlu : lx = u := by omega
              have HCE : Hid (ch = []) := RN.out (by omega)
              have HC0 : Hid (ch.length = 0) := by rw [HCE.out]; rfl
              subst hzu
              subst hlu
              subst hku
              go_wp2_with (at_builtin; refine wpList_copy_own rfl _ _ rfl u5 _ _ ch ys ys.length 0 HC0.out rfl O3.out rfl (.inl HCE.out) (fun h => by cases h) (by omega) (by omega) ?_)
              intro x' w4 ho hb4
              obtain ⟨h1, h2, h3⟩ := HFIN.out x' w4 (by simpa using ho) hb4
              have F1 := TW.hide h1
              have F2 := TW.hide h2
              have F3 := TW.hide h3
              clear h1 h2 h3 ho hb4
              go_wp2
              go_roundw
              case rel => exact ⟨x + 1, by omega, by go_num, F1.out, F2.out, F3.out⟩
              case measure => simp [intOf]; omega
            · have RZ := TW.hide (RC.out bx ox rfl)
              go_wp2_with (at_builtin; refine wpList_copy_own rfl _ _ rfl u5 (some ⟨bx, ox + u, none⟩) (kx - u) ch ys ys.length (z - u) HLC.out rfl O3.out rfl RZ.out (fun h => by cases h) (by omega) (by omega) ?_)
              intro x' w4 ho hb4
              obtain ⟨h1, h2, h3⟩ := HFIN.out x' w4 ho hb4
              have F1 := TW.hide h1
              have F2 := TW.hide h2
              have F3 := TW.hide h3
              clear h1 h2 h3 ho hb4
              go_wp2
              go_roundw
              case rel => exact ⟨x + 1, by omega, by go_num, F1.out, F2.out, F3.out⟩
              case measure => simp [intOf]; omega
        · obtain rfl : x = n := by omega
          have O5 : Hid (wr.ownsRow (w.heap.size + 1) 5 1 u5 (J.take (512 * (r + 1))).length (vs (J.take (512 * (r + 1))))) := by
            show World.ownsRow _ _ _ _ _ _ _
            have h1 := O1.out
            rw [HN5.out, show 512 * r + 512 = 512 * (r + 1) by omega] at h1
            exact h1
          obtain ⟨c0, c1, c2, c3, c4⟩ := cells5 hnb
          clear hnb hown hbl O1
          go_wp2_with fail
          refine (HBB.out _).mono ?_
          rintro e w3 ⟨rfl, hb3⟩
          have O3 := TW.hide (own_below O5.out hb3)
          have N3 := TW.hide (blk_keep N1.out hb3)
          have B3 : Hid (Below w.heap.size w w3) := below_row B1.out hb3 B1.out.size
          clear hb3 O5 N1 B1 c0 c1 c2 c3 c4
          have wq : IntKind.i64.wrap ((q : Int) + (B : Int)) = (q : Int) + (B : Int) := by rw [IntKind.wrap_i64]; omega
          go_wp2
          go_roundw
          case rel => exact ⟨r + 1, q + B, by go_num, by rw [HQ.out, Nat.add_mul, Nat.one_mul], by omega, O3.out, N3.out, B3.out⟩
          case measure => simp [intOf]; omega
    · have hqI : ¬ (q : Int) < (l00 : Int) := by omega
      have hT := HJE.out r (by rw [HL0.out, ← HQ.out]; omega)
      have O5 : Hid (wr.ownsRow w.heap.size 5 1 u5 T (vs J)) := by
        show World.ownsRow _ _ _ _ _ _ _
        have h1 := own_mono' O1.out (show w.heap.size ≤ w.heap.size + 1 by omega)
        rw [List.take_of_length_le (by rw [HJL.out]; exact hT), HJL.out] at h1
        exact h1
      clear hnb O1
      go_wp2
      go_ret
      exact ⟨_, rfl, O5.out, B1.out⟩
end LW
end Go.Proofs.Ythbakhgfnfdahab
