/-
  Cutting digests off, holding, a path's steps: PCut, PHol, PPth in one.
-/
import Derived.Test.YtcpegipojkbcoaaPPak
import Derived.Laws.CopyOwn
namespace Go.Proofs.Ytcpegipojkbcoaa
open Go.RowKit
set_option linter.unusedVariables false
set_option linter.unusedSimpArgs false
namespace LW
open Words
/-- A part of a row is a row. -/
theorem row_sub {w : World} {b off s m : Nat} {zs : List Int} (h : Row w (some ⟨b, off, none⟩) zs) (hs : s + m ≤ zs.length) : Row w (some ⟨b, off + s, none⟩) ((zs.drop s).take m) := by
  rcases h with h | ⟨b', off', e, hc⟩
  · left
    rw [h]
    simp
  · cases e
    refine .inr ⟨b, off + s, rfl, fun i hi => ?_⟩
    have hi' : i < m := by rw [List.length_take] at hi; omega
    have := hc (s + i) (by omega)
    rw [Nat.add_assoc, this]
    simp [List.getD_eq_getElem?_getD, List.getElem?_take, hi', List.getElem?_drop]
theorem ow_setN {w : World} {B n s p o : Nat} {t t' : TypeId} {fr : Nat × Nat} {v u : Value} {xs : List Value} {cs : Array Value} (h : w.ownsRow B t s v n xs) (hp : w.heap[p]? = some (.cells cs t' fr)) (ht : t ≠ t') : (w.setCell ⟨p, o, none⟩ u).ownsRow B t s v n xs := by
  rcases h.2 with ⟨rfl, h0⟩ | ⟨g, cap, cur, rfl, hg, hh, hn, hm, hc, htk⟩
  · exact ⟨h.1, .inl ⟨rfl, h0⟩⟩
  · refine ⟨h.1, .inr ⟨g, cap, cur, rfl, hg, blk_other hh ?_, hn, hm, hc, htk⟩⟩
    rintro rfl
    have := hh.symm.trans hp
    simp at this
    exact ht this.2.1
theorem EL.setN {w : World} {B n p o : Nat} {t' : TypeId} {fr : Nat × Nat} {u : Value} {xs : List Value} {cs : Array Value} {f : Nat → List Int} (h : EL w B xs n f) (hp : w.heap[p]? = some (.cells cs t' fr)) (ht : 5 ≠ t') : EL (w.setCell ⟨p, o, none⟩ u) B xs n f :=
  ⟨h.1, fun r hr => by obtain ⟨v, h1, h2⟩ := h.2 r hr; exact ⟨v, h1, ow_setN h2 hp ht⟩⟩
theorem EL.put {w : World} {B n i : Nat} {xs : List Value} {f f' : Nat → List Int} {v : Value} (h : EL w B xs n f) (hi : i < n) (hv : w.ownsRow B 5 1 v (f' i).length (vs (f' i))) (hf : ∀ r, r ≠ i → f' r = f r) : EL w B (xs.set i v) n f' := by
  refine ⟨by rw [List.length_set]; exact h.1, fun r hr => ?_⟩
  by_cases hri : r = i
  · subst hri
    exact ⟨v, by rw [List.getElem?_set_self (by rw [h.1]; exact hi)], hv⟩
  · obtain ⟨u, h1, h2⟩ := h.2 r hr
    rw [hf r hri]
    exact ⟨u, by rw [List.getElem?_set_ne (Ne.symm hri)]; exact h1, h2⟩
/-- The rows, as far as they are cut. -/
def cutF (zs : List Int) (p m i : Nat) : Nat → List Int := fun r => if r < i then dg zs p m r else []
theorem slice_eq {b o o' l l' c c' : Nat} (h1 : o = o') (h2 : l = l') (h3 : c = c') : Value.slice (some ⟨b, o, none⟩) l c = .slice (some ⟨b, o', none⟩) l' c' := by rw [h1, h2, h3]
theorem cell_own {w : World} {B g q cap i : Nat} {t : TypeId} {xs : List Value} (h : w.ownsRow B t 1 (.slice (some ⟨g, 0, none⟩) q cap) q xs) (hi : i < q) : ∃ z, w.cell? ⟨g, i, none⟩ = some z := by
  have h1 := h.1
  rw [h.cellAt i (by omega)]
  exact ⟨_, List.getElem?_eq_getElem (by omega)⟩
theorem cell_put {w : World} {B g q cap i : Nat} {t : TypeId} {u : Value} {xs : List Value} (h : w.ownsRow B t 1 (.slice (some ⟨g, 0, none⟩) q cap) q xs) (hi : i < q) : (w.setCell ⟨g, i, none⟩ u).cell? ⟨g, i, none⟩ = some u := by
  have h1 := h.1
  rw [(h.stored i u).1.cellAt i (by omega), List.getElem?_set_self (by omega)]
theorem own_whole {w : World} {B g m : Nat} {t : TypeId} {xs : List Value} (h : w.ownsRow B t 1 (.slice (some ⟨g, 0, none⟩) m m) m xs) (hm : 0 < m) : w.heap[g]? = some (.cells xs.toArray t (0, 0)) := by
  rcases h.2 with ⟨h', _⟩ | ⟨g', cap', cur, h', hb, hg, hnc, hcm, hcs, htake⟩
  · cases h'
  · injection h' with h1 h2 h3
    injection h1 with h1
    injection h1 with h1
    subst h1 h3
    rw [hg, ← htake, List.take_of_length_le (by simp; omega)]
theorem own_not {w : World} {B n s g g' c : Nat} {t t' : TypeId} {fr : Nat × Nat} {o : Nat} {xs : List Value} {cs : Array Value} (h : w.ownsRow B t s (.slice (some ⟨g, o, none⟩) n c) n xs) (hg : w.heap[g']? = some (.cells cs t' fr)) (ht : t ≠ t') : g' ≠ g := by
  rintro rfl
  exact ow_nblk h hg ht g' (by simp [Value.ownBlock]) rfl
theorem ow_keepB {w w' : World} {B B' n s : Nat} {t : TypeId} {v : Value} {xs : List Value} (h : w.ownsRow B t s v n xs) (hb : Below B' w w') (hl : ∀ k, v.ownBlock = some k → k < B') : w'.ownsRow B t s v n xs := by
  rcases h.2 with ⟨rfl, h0⟩ | ⟨g, cap, cur, rfl, hg, hh, hn, hm, hc, ht⟩
  · exact ⟨h.1, .inl ⟨rfl, h0⟩⟩
  · exact ⟨h.1, .inr ⟨g, cap, cur, rfl, hg, by rw [hb.5 g (hl g (by simp [Value.ownBlock]))]; exact hh, hn, hm, hc, ht⟩⟩
theorem EL.keepW {w w' : World} {B n : Nat} {xs : List Value} {f : Nat → List Int} (h : EL w B xs n f) (hk : ∀ (g : Nat) (cs : Array Value), w.heap[g]? = some (.cells cs 5 (0, 0)) → w'.heap[g]? = some (.cells cs 5 (0, 0))) : EL w' B xs n f :=
  ⟨h.1, fun r hr => by
    obtain ⟨v, h1, h2⟩ := h.2 r hr
    refine ⟨v, h1, ?_⟩
    rcases h2.2 with ⟨rfl, h0⟩ | ⟨g, cap, cur, rfl, hg, hh, hn, hm, hc, ht⟩
    · exact ⟨h2.1, .inl ⟨rfl, h0⟩⟩
    · exact ⟨h2.1, .inr ⟨g, cap, cur, rfl, hg, hk g cur hh, hn, hm, hc, ht⟩⟩⟩
/-- What is left of bytes, from a place on. -/
def Rest (b off bc zl s : Nat) (x : Value) : Prop := ∃ A, x = .slice A (zl - s) (bc - s) ∧ (A = some ⟨b, off + s, none⟩ ∨ (bc ≤ s ∧ ∃ o, A = some ⟨b, o, none⟩))
theorem Rest.more {b off bc zl s m : Nat} (h : s + m ≤ bc) : Rest b off bc zl (s + m) (.slice (if bc - s = m then some ⟨b, off + s, none⟩ else some ⟨b, off + s + m, none⟩) (zl - s - m) (bc - s - m)) := by
  refine ⟨_, by rw [Nat.sub_sub, Nat.sub_sub], ?_⟩
  split
  · exact .inr ⟨by omega, _, rfl⟩
  · exact .inl (by rw [Nat.add_assoc])
theorem made_sl (n : Nat) : (madeCells (Value.slice none 0 0).cells (n * 1)).toList = List.replicate n (.slice none 0 0) := by
  have e : (Value.slice none 0 0).cells = #[.slice none 0 0] := rfl
  rw [e]
  simp [madeCells, Nat.mod_one, List.map_const']
theorem EL.empty (w : World) (B q : Nat) : EL w B (List.replicate q (.slice none 0 0)) q (fun _ => []) :=
  ⟨by simp, fun r hr => ⟨.slice none 0 0, by simp [hr], rfl, .inl ⟨rfl, rfl⟩⟩⟩
set_option maxRecDepth 100000 in
set_option maxHeartbeats 2000000 in
theorem cut_ (T : Tr) (n : Nat) (s0 s1 s2 s3 : Int) (s4 s5 : Bool) (g k cap b off bc p q m : Nat) (zs : List Int) (w : World) (hm : T.inn = (m : Int)) (hm1 : 1 ≤ m) (hm2 : m ≤ 64) (hr : Row w (some ⟨b, off, none⟩) zs) (hz : zs.length ≤ 1048576) (hc : zs.length ≤ bc) (hp : p + q * m ≤ zs.length) (x : Value) (hx : Rest b off bc zs.length p x) :
    Calls Try.prog 27 #[.agg #[.int .i64 T.k, .int .i64 T.d, .int .i64 T.f, .int .i64 T.dp, .int .u32 T.lf, .int .i64 T.inn, .slice T.ka T.kl T.kc, .slice T.sa T.sl T.sc, .slice T.pa T.pl T.pc, .int .u64 n, .int .i64 s0, .int .u64 s1, .int .u64 s2, .int .u64 s3, .bool s4, .bool s5, .slice (some ⟨g, 0, none⟩) k cap], x, .int .u64 q] w fun e w' => ∃ v x', e = .returned (.tuple #[v, x']) ∧ Rest b off bc zs.length (p + q * m) x' ∧ OL w' w.heap.size v (dgL zs p m q) ∧ Below w.heap.size w w' := by
  have hq20 : q ≤ 1048576 := by
    have := Nat.le_mul_of_pos_right q hm1
    omega
  have n0 := heap_alloc_new w (.cells #[.int .i64 T.k, .int .i64 T.d, .int .i64 T.f, .int .i64 T.dp, .int .u32 T.lf, .int .i64 T.inn, .slice T.ka T.kl T.kc, .slice T.sa T.sl T.sc, .slice T.pa T.pl T.pc, .int .u64 n, .int .i64 s0, .int .u64 s1, .int .u64 s2, .int .u64 s3, .bool s4, .bool s5, .slice (some ⟨g, 0, none⟩) k cap] 53)
  have hb0 := (Below.refl w.heap.size w).alloc (Nat.le_refl _) (.cells #[.int .i64 T.k, .int .i64 T.d, .int .i64 T.f, .int .i64 T.dp, .int .u32 T.lf, .int .i64 T.inn, .slice T.ka T.kl T.kc, .slice T.sa T.sl T.sc, .slice T.pa T.pl T.pc, .int .u64 n, .int .i64 s0, .int .u64 s1, .int .u64 s2, .int .u64 s3, .bool s4, .bool s5, .slice (some ⟨g, 0, none⟩) k cap] 53)
  have hsz : (w.alloc (.cells #[.int .i64 T.k, .int .i64 T.d, .int .i64 T.f, .int .i64 T.dp, .int .u32 T.lf, .int .i64 T.inn, .slice T.ka T.kl T.kc, .slice T.sa T.sl T.sc, .slice T.pa T.pl T.pc, .int .u64 n, .int .i64 s0, .int .u64 s1, .int .u64 s2, .int .u64 s3, .bool s4, .bool s5, .slice (some ⟨g, 0, none⟩) k cap] 53)).heap.size = w.heap.size + 1 := by simp
  have B0 := TW.hide hb0
  have HSZ := TW.hide hsz
  obtain ⟨⟨_, _, _, _, _, c5o, _⟩, _⟩ := cells17 n0
  have c5 : (w.alloc (.cells #[.int .i64 T.k, .int .i64 T.d, .int .i64 T.f, .int .i64 T.dp, .int .u32 T.lf, .int .i64 T.inn, .slice T.ka T.kl T.kc, .slice T.sa T.sl T.sc, .slice T.pa T.pl T.pc, .int .u64 n, .int .i64 s0, .int .u64 s1, .int .u64 s2, .int .u64 s3, .bool s4, .bool s5, .slice (some ⟨g, 0, none⟩) k cap] 53)).cell? ⟨w.heap.size, 5, none⟩ = some (.int .i64 (m : Int)) := by rw [← hm]; exact c5o
  clear c5o
  have HRw : Hid (∀ W s, Below w.heap.size w W → s + m ≤ zs.length → Row W (some ⟨b, off + s, none⟩) ((zs.drop s).take m)) := fun W s hW hs => row_sub (hr.below hW) hs
  have HD : Hid (∀ i, i < q → (dg zs p m i).length = m) := fun i hi => dg_len hp hi
  have HI : Hid (∀ i, i < q → p + i * m + m ≤ zs.length) := fun i hi => by
    have : (i + 1) * m ≤ q * m := Nat.mul_le_mul_right _ hi
    rw [Nat.succ_mul] at this
    show _ ≤ _
    omega
  have HDG : Hid (∀ i, dg zs p m i = (zs.drop (p + i * m)).take m) := fun i => rfl
  have HOL : Hid (∀ (W : World) (v : Value) (xs : List Value), W.ownsRow w.heap.size 24 1 v q xs → EL W w.heap.size xs q (cutF zs p m q) → OL W w.heap.size v (dgL zs p m q)) := by
    intro W v xs h1 h2
    refine ⟨xs, by rw [dgL_len]; exact h1, by rw [dgL_len]; exact h2.1, fun r hr => ?_⟩
    rw [dgL_len] at hr
    dsimp only
    rw [dgL_get zs p m q r hr]
    have := h2.2 r hr
    unfold cutF at this
    rw [if_pos hr] at this
    exact this
  obtain ⟨i5, hi5, hz50, hz51, hz52⟩ := info_parts info5
  obtain ⟨i6, hi6, hz60, hz61, hz62⟩ := info_parts u8sinfo
  clear n0 hb0 hsz hm hr
  obtain ⟨zl, hzl⟩ : ∃ zl, zs.length = zl := ⟨_, rfl⟩
  rw [hzl] at hz hc hp hx HI HRw
  simp only [hzl]
  have HX := TW.hide hx
  clear hx
  have HZL := TW.hide hzl
  clear hzl
  go_enter Try.func27, Try.ntmps27
  refine wp_seq_k fun K hK => ?_
  have HK := TW.hide hK
  clear hK
  go_wp2_with fail
  refine HK.out _ _ ?_
  clear HK K
  generalize w.alloc _ = X at *
  refine wp_seq_k fun K hK => ?_
  have HK := TW.hide hK
  clear hK
  go_wp2
  refine HK.out _ _ ?_
  clear HK K
  refine wp_seq_k fun K hK => ?_
  have HK := TW.hide hK
  clear hK
  go_wp2_with (at_make; refine wpList_make_full _ rfl _ _ 63 rfl w.heap.size 24 i6 (.slice none 0 0) 1 Try.underlying63 hi6 hz60 hz61 _ _ _ _ q rfl rfl rfl rfl (by rw [hz62]; omega) (by unfold maxLen; omega) (by rw [HSZ.out]; omega) ?_; intro w1 hown hgrow)
  have BB : Hid (Below w.heap.size w w1) := B0.out.grown hgrow (by rw [HSZ.out]; omega) (by intro k h; cases h)
  have BO : Hid (w1.ownsRow w.heap.size 24 1 (.slice (some ⟨w.heap.size + 1, 0, none⟩) q q) q (List.replicate q (.slice none 0 0))) := by
    have h := hown
    rw [made_sl, HSZ.out] at h
    exact h
  clear hown hgrow B0
  rw [HSZ.out]
  clear HSZ c5
  go_wp2
  refine HK.out _ _ ?_
  clear HK K
  generalize (Value.agg #[.int .i64 T.k, .int .i64 T.d, .int .i64 T.f, .int .i64 T.dp, .int .u32 T.lf, .int .i64 T.inn, .slice T.ka T.kl T.kc, .slice T.sa T.sl T.sc, .slice T.pa T.pl T.pc, .int .u64 n, .int .i64 s0, .int .u64 s1, .int .u64 s2, .int .u64 s3, .bool s4, .bool s5, .slice (some ⟨g, 0, none⟩) k cap]) = q1
  go_wp2
  go_loopw [1, 9, 10, 18] (fun x y z i wr => ∃ (i' : Nat) (xs : List Value), i' ≤ q ∧ Rest b off bc zl (p + i' * m) x ∧ i = .int .i64 (i' : Int) ∧ wr.ownsRow w.heap.size 24 1 (.slice (some ⟨w.heap.size + 1, 0, none⟩) q q) q xs ∧ EL wr w.heap.size xs q (cutF zs p m i') ∧ Below w.heap.size w wr) (fun x y z i wr => q - (intOf i).toNat)
  case atStart =>
    refine ⟨0, _, Nat.zero_le _, by rw [Nat.zero_mul, Nat.add_zero]; exact HX.out, rfl, BO.out, ?_, BB.out⟩
    exact EL.empty _ _ _
  case round =>
    obtain ⟨i, xs, hi, hx, rfl, ho, he, hB⟩ := hrel
    clear BO BB HX
    by_cases hlt : i < q
    · have hi1 : (i : Int) < (q : Int) := by omega
      have hi0 : (0 : Int) ≤ (i : Int) := by omega
      have hs1 := HI.out i hlt
      obtain ⟨Ax, rfl, hAx⟩ := hx
      obtain rfl : Ax = some ⟨b, off + (p + i * m), none⟩ := by
        rcases hAx with h | ⟨h, _⟩
        · exact h
        · omega
      clear hAx
      have e3 : IntKind.i64.wrap ((i : Int) + 1) = ((i + 1 : Nat) : Int) := by rw [IntKind.wrap_i64]; omega
      have hn1 : p + (i + 1) * m = p + i * m + m := by rw [Nat.succ_mul]; omega
      have hDl := HD.out i hlt
      have hDd := HDG.out i
      have hrow : ∀ W, Below w.heap.size w W → Row W (some ⟨b, off + (p + i * m), none⟩) (dg zs p m i) := fun W hW => by rw [hDd]; exact HRw.out W (p + i * m) hW hs1
      have hcF : ∀ r, r ≠ i → cutF zs p m (i + 1) r = cutF zs p m i r := fun r hr => by
        unfold cutF
        by_cases h : r < i
        · rw [if_pos h, if_pos (by omega)]
        · rw [if_neg h, if_neg (by omega)]
      have hcI : cutF zs p m (i + 1) i = dg zs p m i := by unfold cutF; rw [if_pos (by omega)]
      have HCF := TW.hide hcF
      have HCI := TW.hide hcI
      have HN1 := TW.hide hn1
      have HLT := TW.hide hlt
      have HRW := TW.hide hrow
      have HDL := TW.hide hDl
      clear hcF hcI hn1 hlt hrow hDl hDd hi
      generalize dg zs p m i = D at *
      generalize p + i * m = s at *
      have HO := TW.hide ho
      have HE := TW.hide he
      have HB := TW.hide hB
      have HS1 := TW.hide hs1
      clear ho he hB
      have k1 : (m : Int) ≤ ((zl - s : Nat) : Int) := by omega
      have k2 : (m : Int) ≤ ((bc - s : Nat) : Int) := by omega
      have k0 : (0 : Int) ≤ (m : Int) := by omega
      have HLB : Hid (w.heap.size + 1 < wr.heap.size) := by
        rcases HO.out.2 with ⟨h, _⟩ | ⟨g', cap', cur', h, _, hh, _⟩
        · cases h
        · injection h with h1
          injection h1 with h1
          injection h1 with h1
          show _ < _
          rw [h1]
          exact blk_lt hh
      go_wp2_with (first | (at_make; refine wpList_make_full _ rfl _ _ 24 rfl wr.heap.size 5 i5 (.int .u8 0) 1 Try.underlying24 hi5 hz50 hz51 _ _ _ _ m rfl rfl rfl rfl (by rw [hz52]; omega) (by unfold maxLen; omega) (Nat.le_refl _) ?_; (intro w2 hown hgrow); have b2 : Below wr.heap.size wr w2 := (Below.refl _ _).grown hgrow (Nat.le_refl _) (by intro k h; cases h); (rw [made_vs] at hown); have R2 := TW.hide hown; have O2 := TW.hide (ow_below HO.out b2); have E2 := TW.hide (HE.out.below b2); have B2 : Hid (Below w.heap.size w w2) := HB.out.trans (b2.mono HB.out.size); have HBK := TW.hide b2; clear hown hgrow b2 HO HB; obtain ⟨z2, hc2⟩ : ∃ z, w2.cell? ⟨w.heap.size + 1, i, none⟩ = some z := cell_own O2.out HLT.out; have hf2 := O2.out.frozenAt i; have O3 := TW.hide (O2.out.stored i (.slice (some ⟨wr.heap.size, 0, none⟩) m m)).1; have hc3 : (w2.setCell ⟨w.heap.size + 1, i, none⟩ (.slice (some ⟨wr.heap.size, 0, none⟩) m m)).cell? ⟨w.heap.size + 1, i, none⟩ = some (.slice (some ⟨wr.heap.size, 0, none⟩) m m) := cell_put O2.out HLT.out; have NB3 : Hid ((w2.setCell ⟨w.heap.size + 1, i, none⟩ (.slice (some ⟨wr.heap.size, 0, none⟩) m m)).heap[wr.heap.size]? = some (.cells (vs (List.replicate m 0)).toArray 5 (0, 0))) := blk_other (own_whole R2.out (by omega)) (by have := HLB.out; omega); have B3 : Hid (Below w.heap.size w (w2.setCell ⟨w.heap.size + 1, i, none⟩ (.slice (some ⟨wr.heap.size, 0, none⟩) m m))) := B2.out.setCell (p := ⟨w.heap.size + 1, i, none⟩) (by show _ ≤ w.heap.size + 1; omega) _; have RW3 := TW.hide (HRW.out _ B3.out); have KW3 : Hid (∀ (g : Nat) (cs : Array Value), wr.heap[g]? = some (.cells cs 5 (0, 0)) → (w2.setCell ⟨w.heap.size + 1, i, none⟩ (.slice (some ⟨wr.heap.size, 0, none⟩) m m)).heap[g]? = some (.cells cs 5 (0, 0))) := fun g cs h => blk_other (blk_keep h HBK.out) (own_not O2.out (blk_keep h HBK.out) (by decide)); clear R2 O2 E2 B2 HBK) | (refine wpList_copy_splice rfl (.tmp 33) (.tmp 34) 24 24 rfl 5 Try.underlying24 (by kernel_rfl) _ _ m m m m rfl rfl wr.heap.size 0 (vs (List.replicate m 0)) 5 NB3.out (vs D) (by rw [vs_length, HDL.out]; exact (Nat.min_self m).symm) (fun _ => ⟨rfl, _, rfl, rowCs RW3.out⟩) (by rw [vs_length, vs_length, HDL.out]; simp) (onesV D) wr.heap.size _ (Below.refl _ _) (Nat.le_refl _) ?_; (intro w4 hg4 hb4)))
      have hsp : splice (vs (List.replicate m 0)) 0 (vs D) = vs D := by
        unfold splice
        rw [List.take_zero, List.nil_append, Nat.zero_add, List.drop_of_length_le (by rw [vs_length, vs_length, HDL.out]; simp), List.append_nil]
      have hg4' : w4.heap[wr.heap.size]? = some (.cells (vs D).toArray 5 (0, 0)) := by rw [← hsp]; exact hg4.out
      have B4 : Hid (Below w.heap.size w w4) := B3.out.trans (hb4.mono (by have := HLB.out; omega))
      have R4 : Hid (w4.ownsRow w.heap.size 5 1 (.slice (some ⟨wr.heap.size, 0, none⟩) m m) D.length (vs D)) := ⟨by rw [vs_length]; omega, .inr ⟨wr.heap.size, m, (vs D).toArray, by rw [HDL.out], by have := HLB.out; omega, hg4', by rw [HDL.out]; exact Nat.le_refl _, by unfold maxLen; omega, by simp [vs_length, HDL.out], by rw [List.take_of_length_le (by simp [vs_length])]⟩⟩
      have O4 : Hid (w4.ownsRow w.heap.size 24 1 (.slice (some ⟨w.heap.size + 1, 0, none⟩) q q) q (xs.set i (.slice (some ⟨wr.heap.size, 0, none⟩) m m))) := ow_keepB O3.out hb4 (fun k hk => by simp [Value.ownBlock] at hk; have := HLB.out; omega)
      have E4 : Hid (EL w4 w.heap.size (xs.set i (.slice (some ⟨wr.heap.size, 0, none⟩) m m)) q (cutF zs p m (i + 1))) := by
        refine EL.put (f := cutF zs p m i) (HE.out.keepW (fun g cs h => ?_)) HLT.out (by rw [HCI.out]; exact R4.out) HCF.out
        have h3 := KW3.out g cs h
        have hl := blk_lt h
        rw [hb4.5 g hl]
        exact h3
      clear hb4 hg4 hg4' hsp NB3 B3 RW3 KW3 O3 R4 HE hc2 hf2 hc3
      go_wp2
      go_roundw
      case rel =>
        refine ⟨i + 1, _, HLT.out, ?_, by go_num, O4.out, E4.out, B4.out⟩
        rw [HN1.out]
        exact Rest.more (by omega)
      case measure => simp [intOf]; have := HLT.out; omega
    · obtain rfl : i = q := by omega
      have HO := TW.hide (HOL.out _ _ _ ho he)
      have HB := TW.hide hB
      have HX := TW.hide hx
      clear ho he hB hx
      go_wp2
      go_ret2
      exact ⟨_, _, rfl, HX.out, HO.out, HB.out⟩
end LW
end Go.Proofs.Ytcpegipojkbcoaa
namespace Go.Proofs.Ytcpegipojkbcoaa
open Go.RowKit
set_option linter.unusedVariables false
set_option linter.unusedSimpArgs false
namespace LW
open Words
theorem rem64 (a m : Nat) (hm : 1 ≤ m) (ha : a < 18446744073709551616) : IntKind.u64.wrap ((a : Int) % (m : Int)) = ((a % m : Nat) : Int) := by
  rw [← Int.natCast_emod, IntKind.wrap_u64]
  have := Nat.mod_le a m
  omega
/-- What holds tells. -/
def hoE (size m z : Nat) : Int := if size / m < z then 3 else if z < size / m ∨ size % m ≠ 0 then 9 else 0
set_option maxRecDepth 100000 in
set_option maxHeartbeats 2000000 in
theorem holds_ (T : Tr) (n : Nat) (s0 s1 s2 s3 : Int) (s4 s5 : Bool) (g k cap size m z : Nat) (AW WF WT : Nat → Nat) (w : World) (hm : T.inn = (m : Int)) (hm1 : 1 ≤ m) (hm2 : m ≤ 64) (hs : size ≤ 1048576) (hz : z < 18446744073709551616) (hF : Fk w g k AW WF WT)
    (HD : ∀ W, Fk W g k AW WF WT → Calls Try.prog 15 #[.agg #[.int .i64 T.k, .int .i64 T.d, .int .i64 T.f, .int .i64 T.dp, .int .u32 T.lf, .int .i64 T.inn, .slice T.ka T.kl T.kc, .slice T.sa T.sl T.sc, .slice T.pa T.pl T.pc, .int .u64 n, .int .i64 s0, .int .u64 s1, .int .u64 s2, .int .u64 s3, .bool s4, .bool s5, .slice (some ⟨g, 0, none⟩) k cap]] W fun e w' => e = .returned (.int .u64 z) ∧ Below W.heap.size W w') :
    Calls Try.prog 25 #[.agg #[.int .i64 T.k, .int .i64 T.d, .int .i64 T.f, .int .i64 T.dp, .int .u32 T.lf, .int .i64 T.inn, .slice T.ka T.kl T.kc, .slice T.sa T.sl T.sc, .slice T.pa T.pl T.pc, .int .u64 n, .int .i64 s0, .int .u64 s1, .int .u64 s2, .int .u64 s3, .bool s4, .bool s5, .slice (some ⟨g, 0, none⟩) k cap], .int .i64 size] w fun e w' => e = .returned (.int .i64 (hoE size m z)) ∧ Below w.heap.size w w' := by
  have HF : Hid (∀ W, Below w.heap.size w W → Fk W g k AW WF WT) := fun W hW => hF.below hW
  replace HD := TW.hide HD
  have n0 := heap_alloc_new w (.cells #[.int .i64 T.k, .int .i64 T.d, .int .i64 T.f, .int .i64 T.dp, .int .u32 T.lf, .int .i64 T.inn, .slice T.ka T.kl T.kc, .slice T.sa T.sl T.sc, .slice T.pa T.pl T.pc, .int .u64 n, .int .i64 s0, .int .u64 s1, .int .u64 s2, .int .u64 s3, .bool s4, .bool s5, .slice (some ⟨g, 0, none⟩) k cap] 53)
  have hb0 := (Below.refl w.heap.size w).alloc (Nat.le_refl _) (.cells #[.int .i64 T.k, .int .i64 T.d, .int .i64 T.f, .int .i64 T.dp, .int .u32 T.lf, .int .i64 T.inn, .slice T.ka T.kl T.kc, .slice T.sa T.sl T.sc, .slice T.pa T.pl T.pc, .int .u64 n, .int .i64 s0, .int .u64 s1, .int .u64 s2, .int .u64 s3, .bool s4, .bool s5, .slice (some ⟨g, 0, none⟩) k cap] 53)
  have NB := TW.hide hb0
  have XW := TW.hide n0
  obtain ⟨⟨_, _, _, _, _, c5o, _⟩, _⟩ := cells17 n0
  have c5 : (w.alloc (.cells #[.int .i64 T.k, .int .i64 T.d, .int .i64 T.f, .int .i64 T.dp, .int .u32 T.lf, .int .i64 T.inn, .slice T.ka T.kl T.kc, .slice T.sa T.sl T.sc, .slice T.pa T.pl T.pc, .int .u64 n, .int .i64 s0, .int .u64 s1, .int .u64 s2, .int .u64 s3, .bool s4, .bool s5, .slice (some ⟨g, 0, none⟩) k cap] 53)).cell? ⟨w.heap.size, 5, none⟩ = some (.int .i64 (m : Int)) := by rw [← hm]; exact c5o
  have e1 : IntKind.u64.wrap (m : Int) = (m : Int) := by rw [IntKind.wrap_u64]; omega
  have e2 : IntKind.u64.wrap (size : Int) = (size : Int) := by rw [IntKind.wrap_u64]; omega
  have e4 : IntKind.u64.wrap ((size : Int) / (m : Int)) = ((size / m : Nat) : Int) := quo64 size m (by omega)
  have e5 : (size : Int) % (m : Int) = ((size % m : Nat) : Int) := (Int.natCast_emod size m).symm
  have hm0 : ¬ (m : Int) = 0 := by omega
  have hm9 : ¬ m = 0 := by omega
  have HH : Hid (hoE size m z = if size / m < z then 3 else if z < size / m ∨ size % m ≠ 0 then 9 else 0) := rfl
  generalize hoE size m z = E at *
  generalize size / m = wh at *
  generalize size % m = re at *
  clear n0 hb0 hm hF c5o
  go_enter Try.func25, Try.ntmps25
  refine wp_seq_k fun K hK => ?_
  have HK := TW.hide hK
  clear hK
  go_wp2_with fail
  refine HK.out _ _ ?_
  clear HK K
  generalize w.alloc _ = X at *
  have HX0 : Hid (Below X.heap.size X X) := Below.refl _ _
  refine wp_seq_k fun K hK => ?_
  have HK := TW.hide hK
  clear hK
  go_wp2
  refine HK.out _ _ ?_
  clear HK K
  refine wp_seq_k fun K hK => ?_
  have HK := TW.hide hK
  clear hK
  refine wp_region_noPanic ?_
  refine RG.wp_region_L (fun Z => True) (fun Z => Below X.heap.size X Z) [] (by kernel_rfl) ?_
  refine RG.wpL_any fun Ya hY => ?_
  have HTa : Hid (Below X.heap.size X Ya) := by rw [hY]; exact below_drewN HX0.out 1
  clear hY
  refine RG.wpL_take (fuel := 3) (a' := ?Aa) [0, 1, 2, 3, 4] (by kernel_rfl) (by kernel_rfl) (fun _ _ _ _ _ h => h) HTa.out (fun _ => trivial) ?ra ?_
  case ra =>
    refine RG.RunsIf.weak (v := ?_) (by rfl) (by rfl) (fun Z hT => ?_) ?_
    rotate_left
    · go_simp
      rfl
    simp only [Act.put, List.setIfInBounds_toArray, List.set_cons_zero, List.set_cons_succ, List.getElem_toArray, List.getElem_cons_zero, List.getElem_cons_succ]
    refine RG.RunsIf.weak (v := ?_) (by rfl) (by rfl) (fun Z hT => ?_) ?_
    rotate_left
    · go_simp
      rfl
    simp only [Act.put, List.setIfInBounds_toArray, List.set_cons_zero, List.set_cons_succ, List.getElem_toArray, List.getElem_cons_zero, List.getElem_cons_succ]
    refine RG.RunsIf.weak (v := ?_) (by rfl) (by rfl) (fun Z hT => ?_) ?_
    rotate_left
    · go_simp
      rfl
    simp only [Act.put, List.setIfInBounds_toArray, List.set_cons_zero, List.set_cons_succ, List.getElem_toArray, List.getElem_cons_zero, List.getElem_cons_succ]
    refine RG.RunsIf.weak (v := ?_) (by rfl) (by rfl) (fun Z hT => ?_) ?_
    rotate_left
    · go_simp
      rfl
    simp only [Act.put, List.setIfInBounds_toArray, List.set_cons_zero, List.set_cons_succ, List.getElem_toArray, List.getElem_cons_zero, List.getElem_cons_succ]
    refine RG.RunsIf.weak (v := .agg #[.int .i64 T.k, .int .i64 T.d, .int .i64 T.f, .int .i64 T.dp, .int .u32 T.lf, .int .i64 T.inn, .slice T.ka T.kl T.kc, .slice T.sa T.sl T.sc, .slice T.pa T.pl T.pc, .int .u64 n, .int .i64 s0, .int .u64 s1, .int .u64 s2, .int .u64 s3, .bool s4, .bool s5, .slice (some ⟨g, 0, none⟩) k cap]) (by rfl) (by rfl) (fun Z hT => exec_load_row' 53 _ (by rfl) w.heap.size (by rfl) 53 #[.int .i64 T.k, .int .i64 T.d, .int .i64 T.f, .int .i64 T.dp, .int .u32 T.lf, .int .i64 T.inn, .slice T.ka T.kl T.kc, .slice T.sa T.sl T.sc, .slice T.pa T.pl T.pc, .int .u64 n, .int .i64 s0, .int .u64 s1, .int .u64 s2, .int .u64 s3, .bool s4, .bool s5, .slice (some ⟨g, 0, none⟩) k cap] (0, 0) _ (blk_keep XW.out hT) Try.underlying53 rfl (by kernel_rfl)) ?_
    simp only [Act.put, List.setIfInBounds_toArray, List.set_cons_zero, List.set_cons_succ, List.getElem_toArray, List.getElem_cons_zero, List.getElem_cons_succ]
    exact RG.RunsIf.nil
  refine RG.wpL_step (i := 5) (by kernel_rfl) (by rfl) (by rfl) (fun KX hK => ?_)
  have HK := TW.hide hK
  clear hK
  go_simp
  refine (HD.out _ (HF.out _ (NB.out.trans (HTa.out.mono NB.out.size)))).mono ?_
  rintro ex1 W1 ⟨rfl, hb⟩
  have HT1 : Hid (Below X.heap.size X W1) := HTa.out.trans (hb.mono HTa.out.size)
  refine HK.out _ _ HT1.out (fun _ => trivial) ?_
  clear HK KX hb
  try simp only [Act.put, List.setIfInBounds_toArray, List.set_cons_zero, List.set_cons_succ, List.getElem_toArray, List.getElem_cons_zero, List.getElem_cons_succ]
  refine RG.wpL_take (fuel := 0) (a' := ?Ab) [6, 7] (by kernel_rfl) (by kernel_rfl) (fun _ _ _ _ _ h => h) HT1.out (fun _ => trivial) ?rb ?_
  case rb =>
    refine RG.RunsIf.weak (v := ?_) (by rfl) (by rfl) (fun Z hT => ?_) ?_
    rotate_left
    · go_simp
      rfl
    simp only [Act.put, List.setIfInBounds_toArray, List.set_cons_zero, List.set_cons_succ, List.getElem_toArray, List.getElem_cons_zero, List.getElem_cons_succ]
    refine RG.RunsIf.weak (v := ?_) (by rfl) (by rfl) (fun Z hT => ?_) ?_
    rotate_left
    · go_simp
      rfl
    simp only [Act.put, List.setIfInBounds_toArray, List.set_cons_zero, List.set_cons_succ, List.getElem_toArray, List.getElem_cons_zero, List.getElem_cons_succ]
    exact RG.RunsIf.nil
  refine RG.wpL_done (by kernel_rfl) ?_ _
  refine NoPanic.normal ?_
  refine HK.out _ _ ?_
  clear HK K
  generalize (Value.agg #[.int .i64 T.k, .int .i64 T.d, .int .i64 T.f, .int .i64 T.dp, .int .u32 T.lf, .int .i64 T.inn, .slice T.ka T.kl T.kc, .slice T.sa T.sl T.sc, .slice T.pa T.pl T.pc, .int .u64 n, .int .i64 s0, .int .u64 s1, .int .u64 s2, .int .u64 s3, .bool s4, .bool s5, .slice (some ⟨g, 0, none⟩) k cap]) = q1
  clear c5 e1 e2 e4
  have HB1 : Hid (Below w.heap.size w W1) := NB.out.trans (HT1.out.mono NB.out.size)
  by_cases h1 : wh < z
  · have k1 : (wh : Int) < (z : Int) := by omega
    have HE : Hid (E = 3) := by show _ = _; rw [HH.out, if_pos h1]
    go_wp2
    go_ret
    exact ⟨by rw [HE.out]; rfl, HB1.out⟩
  · have k1 : ¬ (wh : Int) < (z : Int) := by omega
    by_cases h2 : z < wh
    · have k2 : (z : Int) < (wh : Int) := by omega
      have HE : Hid (E = 9) := by show _ = _; rw [HH.out, if_neg h1, if_pos (.inl h2)]
      go_wp2
      go_ret
      exact ⟨by rw [HE.out]; rfl, HB1.out⟩
    · have k2 : ¬ (z : Int) < (wh : Int) := by omega
      by_cases h3 : re = 0
      · have k3 : ((re : Int) != 0) = false := by simp [h3]
        have HE : Hid (E = 0) := by show _ = _; rw [HH.out, if_neg h1, if_neg (by omega)]
        clear h3
        go_wp2
        go_ret
        exact ⟨by rw [HE.out]; rfl, HB1.out⟩
      · have k3 : ((re : Int) != 0) = true := by simp [h3]
        have HE : Hid (E = 9) := by show _ = _; rw [HH.out, if_neg h1, if_pos (.inr h3)]
        clear h3
        go_wp2
        go_ret
        exact ⟨by rw [HE.out]; rfl, HB1.out⟩
end LW
end Go.Proofs.Ytcpegipojkbcoaa
namespace Go.Proofs.Ytcpegipojkbcoaa
open Go.RowKit
set_option linter.unusedVariables false
set_option linter.unusedSimpArgs false
namespace LW
open Words
theorem wp_make_full {P : Program} (w : World) {o : Oper} {a : Act} {K : Act → World → Prop} {Q : Exit → Act → World → Prop}
    (l c : Operand) (t : TypeId) (hop : o.op = Op.makeSlice t l c)
    (base : Nat) (e : TypeId) (i : TypeInfo) (z : Value) (size : Nat) (h1 : P.underlying t = some (.slice e)) (h2 : P.info? e = some i) (h3 : i.zero = some z) (h4 : i.size = size)
    (kl kc : IntKind) (L C : Int) (n : Nat) (hl : a.eval l = .int kl L) (hc : a.eval c = .int kc C) (hL : L = (n : Int)) (hC : C = (n : Int)) (b2 : i.bytes * n ≤ 281474976710656) (b3 : n ≤ maxLen) (b4 : base ≤ w.heap.size)
    (hK : ∀ w', w'.ownsRow base e size (.slice (some ⟨w.heap.size, 0, none⟩) n n) n (madeCells z.cells (n * size)).toList → w.grownBy w' none → K (a.put o.dst (.slice (some ⟨w.heap.size, 0, none⟩) n n)) w') :
    o.wp P a w K Q := by
  obtain ⟨w', hrun, r1, r2⟩ := run_make_full (P := P) w base t e i z size h1 h2 h3 h4 kl kc n b2 b3 b4
  subst hL
  subst hC
  unfold Oper.wp
  simp [execOp, hop, hl, hc, hrun, Result.andThen]
  exact hK w' r1 r2
theorem made_st (k : Nat) : (madeCells (Value.agg #[.slice none 0 0, .slice none 0 0]).cells (k * 2)).toList = List.replicate (k * 2) (.slice none 0 0) := by
  have e : (Value.agg #[.slice none 0 0, .slice none 0 0]).cells = #[.slice none 0 0, .slice none 0 0] := rfl
  rw [e]
  apply List.ext_getElem?
  intro i
  simp only [madeCells]
  rcases Nat.lt_or_ge i (k * 2) with h | h
  · have h2 : i % 2 = 0 ∨ i % 2 = 1 := by omega
    rcases h2 with h2 | h2 <;> simp [h, h2]
  · simp [h]
theorem OwS.empty {w : World} {B k : Nat} {v : Value} (h : w.ownsRow B 65 2 v k (List.replicate (k * 2) (.slice none 0 0))) : OwS w B v k (fun _ => ([], [])) (List.replicate (k * 2) (.slice none 0 0)) := by
  have hn : OL w B (.slice none 0 0) [] := ⟨[], ⟨rfl, .inl ⟨rfl, rfl⟩⟩, rfl, fun r hr => by simp at hr⟩
  refine ⟨h, fun i hi => ⟨_, _, ?_, ?_, hn, hn⟩⟩
  · rw [List.getElem?_replicate, if_pos (by omega)]
  · rw [List.getElem?_replicate, if_pos (by omega)]
set_option maxRecDepth 100000 in
set_option maxHeartbeats 2000000 in
theorem path_ (T : Tr) (n : Nat) (s0 s1 s2 s3 : Int) (s4 s5 : Bool) (g k cap : Nat) (w : World) (hk : k ≤ 255) :
    Calls Try.prog 26 #[.agg #[.int .i64 T.k, .int .i64 T.d, .int .i64 T.f, .int .i64 T.dp, .int .u32 T.lf, .int .i64 T.inn, .slice T.ka T.kl T.kc, .slice T.sa T.sl T.sc, .slice T.pa T.pl T.pc, .int .u64 n, .int .i64 s0, .int .u64 s1, .int .u64 s2, .int .u64 s3, .bool s4, .bool s5, .slice (some ⟨g, 0, none⟩) k cap]] w fun e w' => ∃ v xs, e = .returned (.agg #[.int .u64 n, .int .u64 s1, v]) ∧ OwS w' w.heap.size v k (fun _ => ([], [])) xs ∧ Below w.heap.size w w' := by
  obtain ⟨i6, hi6, hz60, hz61, hz62⟩ := info_parts stepinfo
  have n0 := heap_alloc_new w (.cells #[.int .i64 T.k, .int .i64 T.d, .int .i64 T.f, .int .i64 T.dp, .int .u32 T.lf, .int .i64 T.inn, .slice T.ka T.kl T.kc, .slice T.sa T.sl T.sc, .slice T.pa T.pl T.pc, .int .u64 n, .int .i64 s0, .int .u64 s1, .int .u64 s2, .int .u64 s3, .bool s4, .bool s5, .slice (some ⟨g, 0, none⟩) k cap] 53)
  have hb0 := (Below.refl w.heap.size w).alloc (Nat.le_refl _) (.cells #[.int .i64 T.k, .int .i64 T.d, .int .i64 T.f, .int .i64 T.dp, .int .u32 T.lf, .int .i64 T.inn, .slice T.ka T.kl T.kc, .slice T.sa T.sl T.sc, .slice T.pa T.pl T.pc, .int .u64 n, .int .i64 s0, .int .u64 s1, .int .u64 s2, .int .u64 s3, .bool s4, .bool s5, .slice (some ⟨g, 0, none⟩) k cap] 53)
  have n1 := heap_alloc_new (w.alloc (.cells #[.int .i64 T.k, .int .i64 T.d, .int .i64 T.f, .int .i64 T.dp, .int .u32 T.lf, .int .i64 T.inn, .slice T.ka T.kl T.kc, .slice T.sa T.sl T.sc, .slice T.pa T.pl T.pc, .int .u64 n, .int .i64 s0, .int .u64 s1, .int .u64 s2, .int .u64 s3, .bool s4, .bool s5, .slice (some ⟨g, 0, none⟩) k cap] 53)) (.cells #[.int .u64 0, .int .u64 0, .slice none 0 0] 37)
  rw [show (w.alloc (.cells #[.int .i64 T.k, .int .i64 T.d, .int .i64 T.f, .int .i64 T.dp, .int .u32 T.lf, .int .i64 T.inn, .slice T.ka T.kl T.kc, .slice T.sa T.sl T.sc, .slice T.pa T.pl T.pc, .int .u64 n, .int .i64 s0, .int .u64 s1, .int .u64 s2, .int .u64 s3, .bool s4, .bool s5, .slice (some ⟨g, 0, none⟩) k cap] 53)).heap.size = w.heap.size + 1 by simp] at n1
  have n0 := blk_alloc (o' := .cells #[.int .u64 0, .int .u64 0, .slice none 0 0] 37) n0
  have hb1 := hb0.alloc hb0.size (.cells #[.int .u64 0, .int .u64 0, .slice none 0 0] 37)
  have XW := TW.hide n0
  have XZ := TW.hide n1
  have NB := TW.hide hb1
  have HSX : Hid (((w.alloc (.cells #[.int .i64 T.k, .int .i64 T.d, .int .i64 T.f, .int .i64 T.dp, .int .u32 T.lf, .int .i64 T.inn, .slice T.ka T.kl T.kc, .slice T.sa T.sl T.sc, .slice T.pa T.pl T.pc, .int .u64 n, .int .i64 s0, .int .u64 s1, .int .u64 s2, .int .u64 s3, .bool s4, .bool s5, .slice (some ⟨g, 0, none⟩) k cap] 53)).alloc (.cells #[.int .u64 0, .int .u64 0, .slice none 0 0] 37)).heap.size = w.heap.size + 2) := by show _ = _; simp
  clear n0 n1 hb0 hb1
  go_enter Try.func26, Try.ntmps26
  refine wp_seq_k fun K hK => ?_
  have HK := TW.hide hK
  clear hK
  go_wp2_with fail
  refine HK.out _ _ ?_
  clear HK K
  generalize (w.alloc _).alloc _ = X at *
  refine wp_seq_k fun K hK => ?_
  have HK := TW.hide hK
  clear hK
  refine wp_region_noPanic ?_
  refine RG.wp_region_L (fun Z => True) (fun Z => Z.heap[w.heap.size]? = some (.cells #[.int .i64 T.k, .int .i64 T.d, .int .i64 T.f, .int .i64 T.dp, .int .u32 T.lf, .int .i64 T.inn, .slice T.ka T.kl T.kc, .slice T.sa T.sl T.sc, .slice T.pa T.pl T.pc, .int .u64 n, .int .i64 s0, .int .u64 s1, .int .u64 s2, .int .u64 s3, .bool s4, .bool s5, .slice (some ⟨g, 0, none⟩) k cap] 53 (0, 0))) [] (by kernel_rfl) ?_
  refine RG.wpL_any fun Y hY => ?_
  have HTa : Hid (Y.heap[w.heap.size]? = some (.cells #[.int .i64 T.k, .int .i64 T.d, .int .i64 T.f, .int .i64 T.dp, .int .u32 T.lf, .int .i64 T.inn, .slice T.ka T.kl T.kc, .slice T.sa T.sl T.sc, .slice T.pa T.pl T.pc, .int .u64 n, .int .i64 s0, .int .u64 s1, .int .u64 s2, .int .u64 s3, .bool s4, .bool s5, .slice (some ⟨g, 0, none⟩) k cap] 53 (0, 0))) := by rw [hY]; exact XW.out
  have NZ : Hid (Y.heap[w.heap.size + 1]? = some (.cells #[.int .u64 0, .int .u64 0, .slice none 0 0] 37 (0, 0))) := by rw [hY]; exact XZ.out
  have NBY : Hid (Below w.heap.size w Y) := by rw [hY]; exact below_drewN NB.out 1
  have HSY : Hid (Y.heap.size = w.heap.size + 2) := by rw [hY]; exact HSX.out
  clear hY XW XZ NB HSX
  refine RG.wpL_take (fuel := 3) (a' := ?Aa) [0, 1, 2, 3, 4, 5, 6, 7] (by kernel_rfl) (by kernel_rfl) (fun _ _ _ _ _ h => h) HTa.out (fun _ => trivial) ?ra ?_
  case ra =>
    refine RG.RunsIf.weak (v := ?_) (by rfl) (by rfl) (fun Z hT => ?_) ?_
    rotate_left
    · go_simp
      rfl
    simp only [Act.put, List.setIfInBounds_toArray, List.set_cons_zero, List.set_cons_succ, List.getElem_toArray, List.getElem_cons_zero, List.getElem_cons_succ]
    refine RG.RunsIf.weak (v := .int .u64 n) (by rfl) (by rfl) (fun Z hT => ?_) ?_
    · obtain ⟨⟨c0, c1, c2, c3, c4, c5, c6, c7, c8⟩, c9, ⟨d0, d1, d2, d3, d4, d5⟩, f0, _⟩ := cells17 hT
      go_simp
    simp only [Act.put, List.setIfInBounds_toArray, List.set_cons_zero, List.set_cons_succ, List.getElem_toArray, List.getElem_cons_zero, List.getElem_cons_succ]
    refine RG.RunsIf.weak (v := ?_) (by rfl) (by rfl) (fun Z hT => ?_) ?_
    rotate_left
    · go_simp
      rfl
    simp only [Act.put, List.setIfInBounds_toArray, List.set_cons_zero, List.set_cons_succ, List.getElem_toArray, List.getElem_cons_zero, List.getElem_cons_succ]
    refine RG.RunsIf.weak (v := ?_) (by rfl) (by rfl) (fun Z hT => ?_) ?_
    rotate_left
    · go_simp
      rfl
    simp only [Act.put, List.setIfInBounds_toArray, List.set_cons_zero, List.set_cons_succ, List.getElem_toArray, List.getElem_cons_zero, List.getElem_cons_succ]
    refine RG.RunsIf.weak (v := .int .u64 s1) (by rfl) (by rfl) (fun Z hT => ?_) ?_
    · obtain ⟨⟨c0, c1, c2, c3, c4, c5, c6, c7, c8⟩, c9, ⟨d0, d1, d2, d3, d4, d5⟩, f0, _⟩ := cells17 hT
      go_simp
    simp only [Act.put, List.setIfInBounds_toArray, List.set_cons_zero, List.set_cons_succ, List.getElem_toArray, List.getElem_cons_zero, List.getElem_cons_succ]
    refine RG.RunsIf.weak (v := ?_) (by rfl) (by rfl) (fun Z hT => ?_) ?_
    rotate_left
    · go_simp
      rfl
    simp only [Act.put, List.setIfInBounds_toArray, List.set_cons_zero, List.set_cons_succ, List.getElem_toArray, List.getElem_cons_zero, List.getElem_cons_succ]
    refine RG.RunsIf.weak (v := .slice (some ⟨g, 0, none⟩) k cap) (by rfl) (by rfl) (fun Z hT => ?_) ?_
    · obtain ⟨⟨c0, c1, c2, c3, c4, c5, c6, c7, c8⟩, c9, ⟨d0, d1, d2, d3, d4, d5⟩, f0, _⟩ := cells17 hT
      go_simp
    simp only [Act.put, List.setIfInBounds_toArray, List.set_cons_zero, List.set_cons_succ, List.getElem_toArray, List.getElem_cons_zero, List.getElem_cons_succ]
    refine RG.RunsIf.weak (v := ?_) (by rfl) (by rfl) (fun Z hT => ?_) ?_
    rotate_left
    · go_simp
      rfl
    simp only [Act.put, List.setIfInBounds_toArray, List.set_cons_zero, List.set_cons_succ, List.getElem_toArray, List.getElem_cons_zero, List.getElem_cons_succ]
    exact RG.RunsIf.nil
  refine RG.wpL_step (i := 8) (by kernel_rfl) (by rfl) (by rfl) (fun KX hK => ?_)
  have HK := TW.hide hK
  clear hK
  refine wp_make_full Y _ _ 35 (by rfl) (w.heap.size + 2) 65 i6 (.agg #[.slice none 0 0, .slice none 0 0]) 2 Try.underlying35 hi6 hz60 hz61 .i64 .i64 (k : Int) (k : Int) k (by rfl) (by rfl) rfl rfl (by rw [hz62]; omega) (by unfold maxLen; omega) (by rw [HSY.out]; exact Nat.le_refl _) ?_
  intro W1 hown hgrow
  rw [made_st, HSY.out] at hown
  rw [HSY.out]
  have O1 := TW.hide (OwS.empty hown)
  have hb : Below Y.heap.size Y W1 := (Below.refl _ _).grown hgrow (Nat.le_refl _) (by intro k h; cases h)
  have HT1 := TW.hide (blk_keep HTa.out hb)
  have NZ1 := TW.hide (blk_keep NZ.out hb)
  have NB1 : Hid (Below w.heap.size w W1) := NBY.out.trans (hb.mono NBY.out.size)
  refine HK.out _ _ HT1.out (fun _ => trivial) ?_
  clear HK KX hb hown hgrow HTa NZ NBY HSY
  try simp only [Act.put, List.setIfInBounds_toArray, List.set_cons_zero, List.set_cons_succ, List.getElem_toArray, List.getElem_cons_zero, List.getElem_cons_succ]
  refine RG.wpL_take (fuel := 1) (a' := ?Ab) [9] (by kernel_rfl) (by kernel_rfl) (fun _ _ _ _ _ h => h) HT1.out (fun _ => trivial) ?rb ?_
  case rb =>
    refine RG.RunsIf.weak (v := ?_) (by rfl) (by rfl) (fun Z hT => ?_) ?_
    rotate_left
    · go_simp
      rfl
    simp only [Act.put, List.setIfInBounds_toArray, List.set_cons_zero, List.set_cons_succ, List.getElem_toArray, List.getElem_cons_zero, List.getElem_cons_succ]
    exact RG.RunsIf.nil
  have HT2 : Hid ((W1.setRow (w.heap.size + 1) #[.int .u64 n, .int .u64 s1, .slice (some ⟨w.heap.size + 2, 0, none⟩) k k]).heap[w.heap.size]? = some (.cells #[.int .i64 T.k, .int .i64 T.d, .int .i64 T.f, .int .i64 T.dp, .int .u32 T.lf, .int .i64 T.inn, .slice T.ka T.kl T.kc, .slice T.sa T.sl T.sc, .slice T.pa T.pl T.pc, .int .u64 n, .int .i64 s0, .int .u64 s1, .int .u64 s2, .int .u64 s3, .bool s4, .bool s5, .slice (some ⟨g, 0, none⟩) k cap] 53 (0, 0))) := blk_other' HT1.out (by omega)
  have NZ2 := TW.hide (setRow_heap _ _ _ #[.int .u64 n, .int .u64 s1, .slice (some ⟨w.heap.size + 2, 0, none⟩) k k] _ _ NZ1.out)
  have O2 := TW.hide (O1.out.setR (p := w.heap.size + 1) (cs := #[.int .u64 n, .int .u64 s1, .slice (some ⟨w.heap.size + 2, 0, none⟩) k k]) (by omega))
  have NB2 : Hid (Below w.heap.size w (W1.setRow (w.heap.size + 1) #[.int .u64 n, .int .u64 s1, .slice (some ⟨w.heap.size + 2, 0, none⟩) k k])) := below_setRow NB1.out (by omega)
  refine RG.wpL_step (i := 10) (by kernel_rfl) (by rfl) (by rfl) (fun KX hK => ?_)
  have HK := TW.hide hK
  clear hK
  refine wp_store_row 37 _ _ (by rfl) (w.heap.size + 1) #[.int .u64 n, .int .u64 s1, .slice (some ⟨w.heap.size + 2, 0, none⟩) k k] (by rfl) (by rfl) 37 _ NZ1.out (by kernel_rfl) (by rfl) (by simp [Value.oneCell']) ?_
  refine HK.out _ _ HT2.out (fun _ => trivial) ?_
  clear HK KX HT1 NZ1 NB1 O1
  generalize W1.setRow _ _ = Z at *
  refine RG.wpL_done (by kernel_rfl) ?_ _
  refine NoPanic.normal ?_
  refine HK.out _ _ ?_
  clear HK K
  go_wp2
  exact bodyPost_ret (v := .agg #[.int .u64 n, .int .u64 s1, .slice (some ⟨w.heap.size + 2, 0, none⟩) k k]) (results_cell_row (P := Try.prog) Try.results26 _ _ (w.heap.size + 1) 37 _ (0, 0) _ rfl NZ2.out Try.underlying37 rfl (by kernel_rfl)) rfl ⟨_, _, rfl, O2.out.base (by omega), NB2.out⟩
end LW
end Go.Proofs.Ytcpegipojkbcoaa
