/-
  What the document's Split gives: byte by byte, each lane in a row of its own.
-/
import Derived.Test.YthbakhgfnfdahaaSplits
namespace Go.Proofs.Ythbakhgfnfdahaa
open Go.RowKit Go.ChangeShapes
set_option linter.unusedVariables false
set_option linter.unusedSimpArgs false
namespace LW
open Words
/-- No two of the slices lie in one block. -/
def Apart (n : Nat) (qs : List Value) : Prop := ∀ l j, l < n → j < n → l ≠ j → ∀ v u, qs[l]? = some v → qs[j]? = some u → ∀ k, v.ownBlock = some k → u.ownBlock ≠ some k
theorem Apart.nils (n : Nat) : Apart n (List.replicate n (.slice none 0 0)) := by
  intro l j hl hj _ v u hv hu k hk
  simp [hl] at hv
  subst hv
  simp [Value.ownBlock] at hk
theorem Lst.nils {w : World} {base g n : Nat} {L : Nat → List Int} (h : w.heap[g]? = some (.cells (List.replicate n (Value.slice none 0 0)).toArray 24 (0, 0))) (hL : ∀ l, L l = []) : Lst w base g n L n (List.replicate n (.slice none 0 0)) :=
  ⟨h, by simp, fun l hl => ⟨.slice none 0 0, by simp [hl], by rw [hL]; exact World.ownsRow_nil _ _ _ _⟩⟩
/-- One lane grows. -/
theorem Lst.step {wr w2 : World} {g n l : Nat} {L L' : Nat → List Int} {qs : List Value} {v v' : Value} (h : Lst wr (g + 1) g n L n qs) (ha : Apart n qs) (hl : l < n) (hv : qs[l]? = some v)
    (ho : w2.ownsRow (g + 1) 5 1 v' (L' l).length (vs (L' l))) (hL : ∀ j, j < n → j ≠ l → L' j = L j) (hg : ∀ k, k < wr.heap.size → v.ownBlock ≠ some k → w2.heap[k]? = wr.heap[k]?) (hb : v'.ownBlock = v.ownBlock ∨ ∃ k, v'.ownBlock = some k ∧ wr.heap.size ≤ k) :
    Lst (w2.setCell ⟨g, l, none⟩ v') (g + 1) g n L' n (qs.set l v') ∧ Apart n (qs.set l v') := by
  have hql := h.2.1
  obtain ⟨v0, hv0, hown⟩ := h.2.2 l hl
  rw [hv] at hv0
  cases hv0
  have hG : w2.heap[g]? = some (.cells qs.toArray 24 (0, 0)) := by
    rw [hg g h.lt (fun e => by have := own_lt hown e; omega)]
    exact h.1
  refine ⟨⟨by rw [blk_set hG]; simp, by simp [hql], fun j hj => ?_⟩, ?_⟩
  · by_cases e : j = l
    · subst e
      exact ⟨v', by simp [hql, hj], ownsRow_setCell_below ho (Nat.lt_succ_self g) v'⟩
    · obtain ⟨u, h1, h2⟩ := h.2.2 j hj
      refine ⟨u, by rw [List.getElem?_set_ne (Ne.symm e)]; exact h1, ownsRow_setCell_below ?_ (Nat.lt_succ_self g) v'⟩
      rw [hL j hj e]
      refine ⟨h2.1, ?_⟩
      rcases h2.2 with h3 | ⟨g', cap, cur, e3, hb3, hh3, r3⟩
      · exact .inl h3
      · refine .inr ⟨g', cap, cur, e3, hb3, ?_, r3⟩
        rw [hg g' (blk_lt hh3) (fun e4 => ha l j hl hj (Ne.symm e) v u hv h1 g' e4 (by rw [e3]; rfl))]
        exact hh3
  · intro i j hi hj hne x y hx hy k hk
    by_cases ei : i = l
    · subst ei
      have hx' : x = v' := by
        rw [List.getElem?_set_self (by omega)] at hx
        exact (Option.some.inj hx).symm
      subst hx'
      rw [List.getElem?_set_ne hne] at hy
      rcases hb with hb | ⟨k', hb, hk'⟩
      · rw [hb] at hk
        exact ha i j hi hj hne v y hv hy k hk
      · rw [hb] at hk
        cases hk
        obtain ⟨y', hy', hoy⟩ := h.2.2 j hj
        rw [hy] at hy'
        cases hy'
        intro e
        have := own_lt hoy e
        omega
    · rw [List.getElem?_set_ne (Ne.symm ei)] at hx
      by_cases ej : j = l
      · subst ej
        have hy' : y = v' := by
          rw [List.getElem?_set_self (by omega)] at hy
          exact (Option.some.inj hy).symm
        subst hy'
        intro e
        rcases hb with hb | ⟨k', hb, hk'⟩
        · rw [hb] at e
          exact ha j i hj hi (Ne.symm hne) v x hv hx k e hk
        · rw [hb] at e
          cases e
          obtain ⟨x', hx', hox⟩ := h.2.2 i hi
          rw [hx] at hx'
          cases hx'
          have := own_lt hox hk
          omega
      · rw [List.getElem?_set_ne (Ne.symm ej)] at hy
        exact ha i j hi hj hne x y hx hy k hk
theorem Lst.mono {w : World} {base base' g n i : Nat} {L : Nat → List Int} {qs : List Value} (h : Lst w base g n L i qs) (hb : base' ≤ base) : Lst w base' g n L i qs :=
  ⟨h.1, h.2.1, fun l hl => by
    obtain ⟨v, h1, h2⟩ := h.2.2 l hl
    exact ⟨v, h1, own_mono' h2 hb⟩⟩
theorem mo2 {k : Int} (hk : k = 1 ∨ k = 2) : 2 * mo k = (bb k : Int) := by
  rcases hk with rfl | rfl <;> decide
/-- What both calls Split answer: the lanes, no error. -/
def RSp (w : World) (n : Nat) (L : Nat → List Int) (e : Ending) (w' : World) : Prop := ∃ g qs, e = .returned (.tuple #[.slice (some ⟨g, 0, none⟩) n n, .int .i64 0]) ∧ Lst w' w.heap.size g n L n qs ∧ w.heap.size ≤ g ∧ Below w.heap.size w w'
theorem rsplitNo (k : Int) (a : Option Addr) (len cap : Nat) (w : World) (hk : k ≠ 1 ∧ k ≠ 2) :
    Calls Try.prog 8 #[.int .i64 k, .slice a len cap] w fun e w' => e = .returned (.tuple #[.slice none 0 0, .int .i64 1]) ∧ w = w' := by
  have h0 : nl k = 0 := by simp [nl, hk.1, hk.2]
  have HC := TW.hide (fun W => rcount k W)
  rw [h0] at HC
  clear h0 hk
  go_enter Try.func8, Try.ntmps8
  go_wp2_with fail
  refine (HC.out _).mono ?_
  rintro e w1 ⟨rfl, rfl⟩
  go_wp2
  go_ret2
  exact ⟨rfl, rfl⟩
set_option maxRecDepth 100000 in
set_option maxHeartbeats 4000000 in
theorem rsplit (k : Int) (a : Option Addr) (cap : Nat) (zs : List Int) (w : World) (hk : k = 1 ∨ k = 2) (hr : Row w a zs) (hm : zs.length ≤ 140737488351232) :
    Calls Try.prog 8 #[.int .i64 k, .slice a zs.length cap] w fun e w' => RSp w (nl k) (laL (bb k) zs) e w' := by
  obtain ⟨i2, hi2, hy0, hy1, hy2⟩ := info_parts info24
  have hKB := kb hk
  have hc := fun W => rcount k W
  have hbk := fun W => rblock k W
  rw [mo2 hk] at hbk
  have hcell : ∀ (W : World) (i : Nat), Below w.heap.size w W → i < zs.length → ∃ b off, a = some ⟨b, off, none⟩ ∧ W.cell? ⟨b, off + i, none⟩ = some (.int .u8 (zs.getD i 0)) := by
    intro W i hW hi
    rcases hr.below hW with rfl | ⟨b, off, rfl, hc⟩
    · simp at hi
    · exact ⟨b, off, rfl, hc i hi⟩
  clear hr
  generalize nl k = n at *
  generalize bb k = B at *
  clear hk
  have hB : B ≤ 128 ∧ n ≤ 8 ∧ 0 < B ∧ 0 < n := by rcases hKB with ⟨rfl, rfl⟩ | ⟨rfl, rfl⟩ <;> omega
  have hsucc := fun (i : Nat) (h : i < zs.length) => laL_succ (i := i) (zs := zs) hKB h
  have hoth := fun (i l : Nat) (h : i < zs.length) (hl : l < n) (hne : l ≠ i / B % n) => laL_other (i := i) (l := l) (zs := zs) hKB h hl hne
  have hll := fun (i l : Nat) => laL_length B (zs.take i) l
  have hcl := fun (i l : Nat) => cnt_le (l := l) (T := (zs.take i).length) hKB
  have hlt := fun (i : Nat) => lof_lt (i := i) hKB
  have htk : zs.take zs.length = zs := List.take_length
  obtain ⟨len, hlen⟩ : ∃ len, zs.length = len := ⟨_, rfl⟩
  rw [hlen] at hm htk ⊢
  simp only [hlen] at hcell hsucc hoth
  have HLEN := TW.hide hlen
  have HC := TW.hide hc
  have HBK := TW.hide hbk
  have HCE := TW.hide hcell
  have HSU := TW.hide hsucc
  have HOT := TW.hide hoth
  have HLL := TW.hide hll
  have HCL := TW.hide hcl
  have HLT := TW.hide hlt
  have HTK := TW.hide htk
  obtain ⟨hB1, hB2, hB3, hB4⟩ := hB
  clear hc hbk hcell hsucc hoth hll hcl hlt hKB hlen htk
  have hn0 : ((n : Int) == 0) = false := by simp; omega
  go_enter Try.func8, Try.ntmps8
  go_wp2_with fail
  refine (HC.out _).mono ?_
  rintro e w1 ⟨rfl, rfl⟩
  go_wp2_with (at_make; refine wpList_make_full _ rfl _ _ 26 rfl w.heap.size 24 i2 (.slice none 0 0) 1 Try.underlying26 hi2 hy0 hy1 _ _ _ _ n rfl rfl rfl rfl (by rw [hy2]; omega) (by unfold maxLen; omega) (Nat.le_refl _) ?_; intro w2 hown hgrow; have O2 := TW.hide hown; have G2 := TW.hide hgrow; clear hown hgrow)
  have hfull := own_full O2.out
  rw [made_nils] at hfull
  have LS : Hid (Lst w2 (w.heap.size + 1) w.heap.size n (laL B (zs.take 0)) n (List.replicate n (.slice none 0 0))) := Lst.nils hfull.1 (fun l => laL_none _ _ _)
  have AP := TW.hide (Apart.nils n)
  have B2 : Hid (Below w.heap.size w w2) := (Below.refl _ _).grown G2.out (Nat.le_refl _) (by intro k h; cases h)
  clear hfull O2 G2
  go_loopw [8] (fun t wr => ∃ (i : Nat) (qs : List Value), i ≤ len ∧ t = .int .i64 i ∧ Lst wr (w.heap.size + 1) w.heap.size n (laL B (zs.take i)) n qs ∧ Apart n qs ∧ Below w.heap.size w wr) (fun t _ => len - (intOf t).toNat)
  case atStart => exact ⟨0, _, Nat.zero_le _, rfl, LS.out, AP.out, B2.out⟩
  case round =>
    obtain ⟨i, qs, hi, rfl, hls, hap, hbl⟩ := hrel
    clear LS AP B2
    have LS := TW.hide hls
    have AP := TW.hide hap
    have BL := TW.hide hbl
    have hgl := hls.lt
    clear hls hap hbl
    by_cases hil : i < len
    · have hiI : (i : Int) < (len : Int) := by omega
      have hi0 : (0 : Int) ≤ (i : Int) := Int.natCast_nonneg _
      obtain ⟨q, hq⟩ : ∃ q, i / B = q := ⟨_, rfl⟩
      obtain ⟨l, hl⟩ : ∃ l, q % n = l := ⟨_, rfl⟩
      have hln : l < n := by rw [← hl]; exact Nat.mod_lt _ hB4
      have hqi : q ≤ i := by rw [← hq]; exact Nat.div_le_self _ _
      have e1 : (i : Int) / (B : Int) = (q : Int) := by rw [← hq]; exact (Int.natCast_ediv i B).symm
      have e2 : (q : Int) % (n : Int) = (l : Int) := by rw [← hl]; exact (Int.natCast_emod q n).symm
      have e1' : (i : Int).tdiv (B : Int) = (q : Int) := by rw [Int.tdiv_eq_ediv_of_nonneg (by omega)]; exact e1
      have e2' : (q : Int).tmod (n : Int) = (l : Int) := by rw [Int.tmod_eq_emod_of_nonneg (by omega)]; exact e2
      have x1 : IntKind.i64.wrap (q : Int) = q := by rw [IntKind.wrap_i64]; omega
      have x2 : IntKind.i64.wrap (l : Int) = l := by rw [IntKind.wrap_i64]; omega
      have HLI : Hid (i / B % n = l) := by show _ = _; rw [hq, hl]
      have hB0 : ((B : Int) == 0) = false := by simp; omega
      have hlI : (0 : Int) ≤ (l : Int) := Int.natCast_nonneg _
      have hlJ : (l : Int) < (n : Int) := by omega
      clear hq hl
      go_wp2_with fail
      refine (HBK.out _).mono ?_
      rintro e w1 ⟨rfl, rfl⟩
      go_wp2
      obtain ⟨v, hv, hov⟩ := LS.out.2.2 l hln
      rw [HLL.out] at hov
      have HV := TW.hide hv
      have HOV := TW.hide hov
      have hcnt := HCL.out i l
      obtain ⟨b, off, rfl, hcz⟩ := HCE.out wr i BL.out hil
      have hbw : b < w.heap.size := by
        obtain ⟨b2, off2, he, hcw⟩ := HCE.out w i (Below.refl _ _) hil
        cases he
        exact lt_of_cell hcw
      obtain ⟨z, hz⟩ : ∃ z, zs.getD i 0 = z := ⟨_, rfl⟩
      rw [hz] at hcz
      have HZ := TW.hide hz
      have htl : (zs.take i).length = i := by rw [List.length_take, HLEN.out]; omega
      rw [htl] at hcnt HOV
      have hcl := ref_cell LS.out.1 hv
      obtain ⟨hcl, _⟩ := hcl
      clear hv hov hz htl
      obtain ⟨cn, hcn⟩ : ∃ cn, cnt B l i = cn := ⟨_, rfl⟩
      rw [hcn] at HOV hcnt
      have HCN := TW.hide hcn
      clear hcn
      refine wp_region_noPanic ?_
      refine RG.wp_region_L (fun Z => Z.cell? ⟨w.heap.size, l, none⟩ = some v ∧ Z.cell? ⟨b, off + i, none⟩ = some (.int .u8 z)) (fun Z => True) [13] (by kernel_rfl) ?_
      refine RG.wpL_any fun Y hY => ?_
      have hhY : Y.heap = wr.heap := by rw [hY]; rfl
      have LY : Hid (Lst Y (w.heap.size + 1) w.heap.size n (laL B (zs.take i)) n qs) := by rw [hY]; exact LS.out.below (below_drewN (Below.refl _ _) 1)
      have OY : Hid (Y.ownsRow (w.heap.size + 1) 5 1 v cn (vs (laL B (zs.take i) l))) := by rw [hY]; exact own_below HOV.out (below_drewN (Below.refl _ _) 1)
      have BY : Hid (Below w.heap.size w Y) := by rw [hY]; exact below_drewN BL.out 1
      have y1 : Y.cell? ⟨w.heap.size, l, none⟩ = some v := by rw [hY]; exact hcl
      have y2 : Y.cell? ⟨b, off + i, none⟩ = some (.int .u8 z) := by rw [hY]; exact hcz
      clear hY hhY LS HOV BL hcl hcz
      refine RG.wpL_take (fuel := 4) (a' := ?At) [0, 1, 2, 3, 4, 5, 6, 7, 8, 9] (by kernel_rfl) (by kernel_rfl) (fun _ _ _ _ _ h => h) trivial (fun _ => ⟨y1, y2⟩) ?rt ?_
      case rt =>
        refine RG.RunsIf.weak (v := ?_) (by rfl) (by rfl) (fun Z hT => ?_) ?_
        rotate_left
        · go_simp
          rfl
        simp only [Act.put, List.setIfInBounds_toArray, List.set_cons_zero, List.set_cons_succ, List.getElem_toArray, List.getElem_cons_zero, List.getElem_cons_succ]
        refine RG.RunsIf.weak (v := ?_) (by rfl) (by rfl) (fun Z hT => ?_) ?_
        rotate_left
        · go_simp
          rfl
        simp only [Act.put, List.setIfInBounds_toArray, List.set_cons_zero, List.set_cons_succ, List.getElem_toArray, List.getElem_cons_zero, List.getElem_cons_succ]
        refine RG.RunsIf.weak (v := ?_) (by rfl) (by rfl) (fun Z hT => ?_) ?_
        rotate_left
        · go_simp
          rfl
        simp only [Act.put, List.setIfInBounds_toArray, List.set_cons_zero, List.set_cons_succ, List.getElem_toArray, List.getElem_cons_zero, List.getElem_cons_succ]
        refine RG.RunsIf.weak (v := ?_) (by rfl) (by rfl) (fun Z hT => ?_) ?_
        rotate_left
        · go_simp
          rfl
        simp only [Act.put, List.setIfInBounds_toArray, List.set_cons_zero, List.set_cons_succ, List.getElem_toArray, List.getElem_cons_zero, List.getElem_cons_succ]
        refine RG.RunsIf.weak (v := ?_) (by rfl) (by rfl) (fun Z hT => ?_) ?_
        rotate_left
        · go_simp
          rfl
        simp only [Act.put, List.setIfInBounds_toArray, List.set_cons_zero, List.set_cons_succ, List.getElem_toArray, List.getElem_cons_zero, List.getElem_cons_succ]
        refine RG.RunsIf.strong (v := v) (by rfl) (by kernel_rfl) (by rfl) (fun Z hT hS => ?_) ?_
        · have cz : Z.cell? ⟨w.heap.size, l, none⟩ = some v := hS.1
          go_simp
        simp only [Act.put, List.setIfInBounds_toArray, List.set_cons_zero, List.set_cons_succ, List.getElem_toArray, List.getElem_cons_zero, List.getElem_cons_succ]
        refine RG.RunsIf.weak (v := ?_) (by rfl) (by rfl) (fun Z hT => ?_) ?_
        rotate_left
        · go_simp
          rfl
        simp only [Act.put, List.setIfInBounds_toArray, List.set_cons_zero, List.set_cons_succ, List.getElem_toArray, List.getElem_cons_zero, List.getElem_cons_succ]
        refine RG.RunsIf.weak (v := ?_) (by rfl) (by rfl) (fun Z hT => ?_) ?_
        rotate_left
        · go_simp
          rfl
        simp only [Act.put, List.setIfInBounds_toArray, List.set_cons_zero, List.set_cons_succ, List.getElem_toArray, List.getElem_cons_zero, List.getElem_cons_succ]
        refine RG.RunsIf.weak (v := ?_) (by rfl) (by rfl) (fun Z hT => ?_) ?_
        rotate_left
        · go_simp
          rfl
        simp only [Act.put, List.setIfInBounds_toArray, List.set_cons_zero, List.set_cons_succ, List.getElem_toArray, List.getElem_cons_zero, List.getElem_cons_succ]
        refine RG.RunsIf.strong (v := .int .u8 z) (by rfl) (by kernel_rfl) (by rfl) (fun Z hT hS => ?_) ?_
        · have cz : Z.cell? ⟨b, off + i, none⟩ = some (.int .u8 z) := hS.2
          go_simp
        simp only [Act.put, List.setIfInBounds_toArray, List.set_cons_zero, List.set_cons_succ, List.getElem_toArray, List.getElem_cons_zero, List.getElem_cons_succ]
        exact RG.RunsIf.nil
      have hgY : w.heap.size < Y.heap.size := LY.out.lt
      have A1 : Hid (Lst (Y.alloc (.cells #[.int .u8 z] 5)) (w.heap.size + 1) w.heap.size n (laL B (zs.take i)) n qs) := LY.out.below ((Below.refl _ _).alloc (Nat.le_refl _) _)
      have A2 : Hid ((Y.alloc (.cells #[.int .u8 z] 5)).ownsRow (w.heap.size + 1) 5 1 v cn (vs (laL B (zs.take i) l))) := OY.out.alloc _
      have A3 : Hid (Below w.heap.size w (Y.alloc (.cells #[.int .u8 z] 5))) := BY.out.alloc BY.out.size _
      have A4 : Hid (Row (Y.alloc (.cells #[.int .u8 z] 5)) (some ⟨Y.heap.size, 0, none⟩) [z]) := .inr ⟨Y.heap.size, 0, rfl, fun i hi => by
        obtain rfl : i = 0 := by simpa using hi
        exact blk_cell (heap_alloc_new Y _) rfl⟩
      have s1 : (Y.alloc (.cells #[.int .u8 z] 5)).cell? ⟨w.heap.size, l, none⟩ = some v := (ref_cell A1.out.1 HV.out).1
      have s2 : (Y.alloc (.cells #[.int .u8 z] 5)).cell? ⟨b, off + i, none⟩ = some (.int .u8 z) := by rw [World.cell?_alloc_past _ _ _ (lt_of_cell y2)]; exact y2
      have hYs : (Y.alloc (.cells #[.int .u8 z] 5)).heap.size = Y.heap.size + 1 := by simp
      refine RG.wpL_step (i := 10) (by kernel_rfl) (by rfl) (by rfl) (fun KX hK => ?_)
      have HK := TW.hide hK
      clear hK
      go_simp
      refine HK.out _ _ trivial (fun _ => ⟨s1, s2⟩) ?_
      clear HK KX LY OY BY y1 y2
      generalize Y.alloc (.cells #[.int .u8 z] 5) = X at *
      generalize Y.heap.size = gy at *
      refine RG.wpL_step (i := 11) (by kernel_rfl) (by rfl) (by rfl) (fun KX hK => ?_)
      have HK := TW.hide hK
      clear hK
      refine wp_append_bytes _ _ (by rfl) (w.heap.size + 1) v cn (laL B (zs.take i) l) (by rfl) A2.out ⟨gy, 0, none⟩ 1 1 [z] rfl (by rfl) A4.out (by omega) (by omega) ?_
      intro v' w5 hown5 hgr5 hat5
      obtain ⟨av, cv, hv'⟩ := own_form hown5
      have hL1 : laL B (zs.take (i + 1)) l = laL B (zs.take i) l ++ [z] := by
        have h1 := HSU.out i hil
        rw [HLI.out, HZ.out] at h1
        exact h1
      have hlen1 : (laL B (zs.take (i + 1)) l).length = cn + 1 := by
        rw [hL1, List.length_append, HLL.out, show (zs.take i).length = i by rw [List.length_take, HLEN.out]; omega, HCN.out]; rfl
      have ST := Lst.step (L' := laL B (zs.take (i + 1))) A1.out AP.out hln HV.out (v' := v') (w2 := w5) (by rw [hlen1, hL1]; exact hown5) (fun j hj hne => HOT.out i j hil hj (by rw [HLI.out]; exact hne)) (fun k hk hne => hgr5.block k hk (fun e => hne e.symm)) (by
        rcases hat5 with h | h
        · exact .inl h
        · exact .inr ⟨_, h, Nat.le_refl _⟩)
      have L5 := TW.hide ST.1
      have P5 := TW.hide ST.2
      have hG5 : w5.heap[w.heap.size]? = some (.cells qs.toArray 24 (0, 0)) := by
        rw [hgr5.block _ A1.out.lt (fun e => by have := own_lt A2.out e.symm; omega)]
        exact A1.out.1
      obtain ⟨hc5, hf5⟩ := ref_cell hG5 HV.out
      have B5 : Hid (Below w.heap.size w (w5.setCell ⟨w.heap.size, l, none⟩ v')) := (A3.out.grown hgr5 A3.out.size (fun k hk => by have := own_lt A2.out hk; omega)).setCell (Nat.le_refl _) _
      have hT5 : w5.cell? ⟨b, off + i, none⟩ = some (.int .u8 z) := by
        rw [World.cell?_of_block (w := X) (hgr5.block b (lt_of_cell s2) (fun e => by have := own_lt A2.out e.symm; omega))]
        exact s2
      refine HK.out _ _ trivial (fun _ => ⟨hc5, hT5⟩) ?_
      clear HK KX hown5 hgr5 hat5 A1 A2 A3 A4 s1 s2 ST hL1 hlen1
      rw [hv'] at L5 P5 B5 ⊢
      clear hv'
      simp only [Act.put, List.setIfInBounds_toArray, List.set_cons_zero, List.set_cons_succ, List.getElem_toArray, List.getElem_cons_zero, List.getElem_cons_succ]
      refine RG.wpL_take (fuel := 1) (a' := ?Au) [12] (by kernel_rfl) (by kernel_rfl) (fun _ _ _ _ _ h => h) trivial (fun _ => ⟨hc5, hT5⟩) ?ru ?_
      case ru =>
        refine RG.RunsIf.weak (v := ?_) (by rfl) (by rfl) (fun Z hT => ?_) ?_
        rotate_left
        · go_simp
          rfl
        simp only [Act.put, List.setIfInBounds_toArray, List.set_cons_zero, List.set_cons_succ, List.getElem_toArray, List.getElem_cons_zero, List.getElem_cons_succ]
        exact RG.RunsIf.nil
      refine RG.wpL_late (i := 13) (by kernel_rfl) (by rfl) (by rfl) (by kernel_rfl) (fun KX hK => ?_)
      have HK := TW.hide hK
      clear hK
      go_simp
      refine HK.out _ _ trivial ?_
      clear HK KX hc5 hf5
      refine RG.wpL_done (by kernel_rfl) ?_ _
      refine NoPanic.normal ?_
      generalize w5.setCell _ _ = X5 at *
      go_wp2
      go_roundw
      case rel => exact ⟨i + 1, _, by omega, by go_num, L5.out, P5.out, B5.out⟩
      case measure => simp [intOf]; omega
    · obtain rfl : i = len := by omega
      have hiI : ¬ (i : Int) < (i : Int) := by omega
      go_wp2
      go_ret2
      refine ⟨_, qs, rfl, ?_, Nat.le_refl _, BL.out⟩
      have h1 := LS.out.mono (base' := w.heap.size) (by omega)
      rw [HTK.out] at h1
      exact h1
end LW
end Go.Proofs.Ythbakhgfnfdahaa
