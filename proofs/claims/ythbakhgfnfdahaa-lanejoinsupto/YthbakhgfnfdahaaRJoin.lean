/-
  What the document's Join gives, of whatever lanes.
-/
import Derived.Test.YthbakhgfnfdahaaLJoin
import Derived.Test.YthbakhgfnfdahaaRSplit
namespace Go.Proofs.Ythbakhgfnfdahaa
open Go.RowKit Go.ChangeShapes
set_option linter.unusedVariables false
set_option linter.unusedSimpArgs false
namespace LW
open Words
theorem info3 : (Try.prog.info? 3).map (fun i => (i.zero, i.size, i.bytes)) = some (some (.int .i64 0), 1, 8) := by kernel_rfl
/-- How many bytes of each lane are used behind i bytes of the message. -/
def usL (n B i : Nat) : List Value := (List.range n).map fun l => .int .i64 (cnt B l i : Nat)
theorem usL_get {n B i l : Nat} (h : l < n) : (usL n B i)[l]? = some (.int .i64 (cnt B l i : Nat)) := by simp [usL, h]
theorem usL_zero (n B : Nat) : (madeCells (Value.int .i64 0).cells (n * 1)).toList = usL n B 0 := by
  have e : (Value.int .i64 0).cells = #[.int .i64 0] := rfl
  rw [e]
  simp [madeCells, Nat.mod_one, List.map_const', usL, cnt]
theorem usL_succ {n B i : Nat} (h : KB n B) : (usL n B i).set (i / B % n) (.int .i64 ((cnt B (i / B % n) i : Nat) + 1)) = usL n B (i + 1) := by
  apply List.ext_getElem?
  intro j
  by_cases hj : j < n
  · rw [usL_get hj]
    by_cases e : i / B % n = j
    · rw [← e, List.getElem?_set_self (by simp [usL]; omega), cnt_succ h]; simp
    · rw [List.getElem?_set_ne e, usL_get hj, cnt_other h hj (Ne.symm e)]
  · rw [List.getElem?_eq_none (by simp [usL]; omega), List.getElem?_eq_none (by simp [usL]; omega)]
theorem rjoinNo (k : Int) (al : Option Addr) (N c : Nat) (ls : Nat → List Int) (w : World) (h0 : nl k = 0) :
    Calls Try.prog 14 #[.int .i64 k, .slice al N c] w fun e w' => JoP k N ls w e w' := by
  have hR : JoR k N ls 1 [] := .inl ⟨h0, rfl, rfl⟩
  have HC := TW.hide (fun W => rcount k W)
  rw [h0] at HC
  have HR := TW.hide hR
  clear h0 hR
  go_enter Try.func14, Try.ntmps14
  go_wp2_with fail
  refine (HC.out _).mono ?_
  rintro e w1 ⟨rfl, rfl⟩
  go_wp2
  go_ret2
  exact ⟨1, [], _, HR.out, rfl, World.ownsRow_nil _ _ _ _, Below.refl _ _⟩
theorem rjoinNe (k : Int) (al : Option Addr) (N c : Nat) (ls : Nat → List Int) (w : World) (h0 : 0 < nl k) (hN : N ≠ nl k) (hM : N ≤ 1048576) :
    Calls Try.prog 14 #[.int .i64 k, .slice al N c] w fun e w' => JoP k N ls w e w' := by
  have hR : JoR k N ls 80 [] := .inr (.inl ⟨h0, fun h => hN h.1, rfl, rfl⟩)
  have HC := TW.hide (fun W => rcount k W)
  have HR := TW.hide hR
  have h1 : ((nl k : Int) == 0) = false := by simp; omega
  have h2 : ((N : Int) != (nl k : Int)) = true := by simp; omega
  generalize nl k = n at *
  clear h0 hN hR
  go_enter Try.func14, Try.ntmps14
  go_wp2_with fail
  refine (HC.out _).mono ?_
  rintro e w1 ⟨rfl, rfl⟩
  go_wp2
  go_ret2
  exact ⟨80, [], _, HR.out, rfl, World.ownsRow_nil _ _ _ _, Below.refl _ _⟩
set_option maxRecDepth 100000 in
set_option maxHeartbeats 4000000 in
theorem rjoinB (k : Int) (b off c : Nat) (A : Nat → Option Addr) (K : Nat → Nat) (ls : Nat → List Int) (w : World) (hk : k = 1 ∨ k = 2) (h : Mb w b off (nl k) A K ls) :
    Calls Try.prog 14 #[.int .i64 k, .slice (some ⟨b, off, none⟩) (nl k) c] w fun e w' => JoP k (nl k) ls w e w' := by
  obtain ⟨i3, hi3, hw0, hw1, hw2⟩ := info_parts info3
  have hKB := kb hk
  have hn8 : nl k ≤ 8 := by unfold nl; split <;> (try split) <;> omega
  have h0 : 0 < nl k := by rcases hk with rfl | rfl <;> decide
  have hc := fun W => rcount k W
  have hbk := fun W => rblock k W
  rw [mo2 hk] at hbk
  have hmb := fun W (hW : Below w.heap.size w W) => h.below hW
  have hs := h.sum
  have hlen := fun r (hr : r < nl k) => h.len hr
  have hm := fun x (hx : x ≤ nl k) => Nat.le_trans (sumN_mono (fun r => (ls r).length) hx) hs
  have hsn := fun x => show sumN (fun r => (ls r).length) (x + 1) = sumN (fun r => (ls r).length) x + (ls x).length from rfl
  have hDI := dealt_iff (ls := ls) hKB
  have hR1 : ¬ Dealt (nl k) (bb k) ls → JoR k (nl k) ls 80 [] := fun h => .inr (.inl ⟨h0, fun h2 => h h2.2, rfl, rfl⟩)
  have hR2 : Dealt (nl k) (bb k) ls → JoR k (nl k) ls 0 (joL (nl k) (bb k) ls (sumN (fun r => (ls r).length) (nl k))) := fun h => .inr (.inr ⟨h0, ⟨rfl, h⟩, rfl, rfl⟩)
  generalize Dealt (nl k) (bb k) ls = DD at *
  have hus := fun i => usL_succ (i := i) hKB
  have hlt := fun (i : Nat) => lof_lt (i := i) hKB
  have hcx := fun (i : Nat) => cnt_lof (T := i) hKB
  have hcl := fun (i l : Nat) => cnt_le (l := l) (T := i) hKB
  have hB : 0 < bb k ∧ bb k ≤ 128 := by rcases hKB with ⟨h1, h2⟩ | ⟨h1, h2⟩ <;> rw [h2] <;> omega
  obtain ⟨JR, hJR⟩ : ∃ JR : Int → List Int → Prop, JR = JoR k (nl k) ls := ⟨_, rfl⟩
  have HPO : Hid (∀ (E : Int) (zs : List Int) (v : Value) (w' : World), JR E zs → w'.ownsRow w.heap.size 5 1 v zs.length (vs zs) → Below w.heap.size w w' → JoP k (nl k) ls w (.returned (.tuple #[v, .int .i64 E])) w') := fun E zs v w' h1 h2 h3 => ⟨E, zs, v, by rw [hJR] at h1; exact h1, rfl, h2, h3⟩
  rw [← hJR] at hR1 hR2
  clear hJR
  generalize JoP k (nl k) ls w = POST at *
  generalize nl k = n at *
  generalize bb k = B at *
  obtain ⟨hB0, hB1⟩ := hB
  have HC := TW.hide hc
  have HBK := TW.hide hbk
  have HMB := TW.hide hmb
  have HLE := TW.hide hlen
  have HM := TW.hide hm
  have HSN := TW.hide hsn
  have HDI := TW.hide hDI
  have HR1 := TW.hide hR1
  have HR2 := TW.hide hR2
  have HUS := TW.hide hus
  have HLT := TW.hide hlt
  have HCX := TW.hide hcx
  have HCL := TW.hide hcl
  clear hc hbk hmb hlen hm hsn hDI hR1 hR2 hus hlt hcx hcl h hk hKB
  have hn0 : ((n : Int) == 0) = false := by simp; omega
  have hnn : ((n : Int) != (n : Int)) = false := by simp
  go_enter Try.func14, Try.ntmps14
  go_wp2_with fail
  refine (HC.out _).mono ?_
  rintro e w1 ⟨rfl, rfl⟩
  go_wp2
  go_loop [8, 7] (fun i t => ∃ x : Nat, x ≤ n ∧ i = .int .i64 x ∧ t = .int .i64 (sumN (fun r => (ls r).length) x : Nat)) (fun i _ => n - (intOf i).toNat)
  case atStart => exact ⟨0, Nat.zero_le _, rfl, rfl⟩
  case round =>
    rename_i Q1 K1 a1 hw9
    obtain ⟨x, hx, rfl, rfl⟩ := hrel
    by_cases hlt : x < n
    · have hc := (HMB.out w (Below.refl _ _)).cell x hlt
      have h1 := HM.out (x + 1) hlt
      have h2 := HSN.out x
      rw [h2] at h1
      have hxI : (0 : Int) ≤ (x : Int) := Int.natCast_nonneg _
      have hxJ : (x : Int) < (n : Int) := by omega
      obtain ⟨s0, hs0⟩ : ∃ s0, sumN (fun r => (ls r).length) x = s0 := ⟨_, rfl⟩
      obtain ⟨l0, hl0⟩ : ∃ l0, (ls x).length = l0 := ⟨_, rfl⟩
      rw [hs0, hl0] at h1 h2
      rw [hs0]
      rw [hl0] at hc
      have H2 := TW.hide h2
      have ww : IntKind.i64.wrap ((s0 : Int) + (l0 : Int)) = (s0 : Int) + (l0 : Int) := by rw [IntKind.wrap_i64]; omega
      clear hs0 hl0 h2
      go_wp2
      exact ⟨⟨x + 1, by omega, by go_num, by rw [H2.out]; simp⟩, by simp [intOf]; omega⟩
    · obtain rfl : x = n := by omega
      have HA := TW.hide a1
      clear a1
      obtain ⟨T, hT⟩ : ∃ T, sumN (fun r => (ls r).length) x = T := ⟨_, rfl⟩
      rw [hT] at hs HDI HR2 ⊢
      clear hT HM HSN
      go_wp2
      refine HA.out _ _ ?_
      clear HA
      go_wp2_with (at_make; refine wpList_make_full _ rfl _ _ 57 rfl w.heap.size 3 i3 (.int .i64 0) 1 Try.underlying57 hi3 hw0 hw1 _ _ _ _ x rfl rfl rfl rfl (by rw [hw2]; omega) (by unfold maxLen; omega) (Nat.le_refl _) ?_; intro w2 hown hgrow; have O2 := TW.hide hown; have G2 := TW.hide hgrow; clear hown hgrow)
      have hfull := own_full O2.out
      rw [usL_zero x B] at hfull
      have U2 : Hid (w2.heap[w.heap.size]? = some (.cells (usL x B 0).toArray 3 (0, 0))) := hfull.1
      have B2 : Hid (Below w.heap.size w w2) := (Below.refl _ _).grown G2.out (Nat.le_refl _) (by intro k h; cases h)
      clear hfull O2 G2
      go_loopw [11, 9] (fun t o wr => ∃ (i : Nat), i ≤ T ∧ t = .int .i64 i ∧ wr.ownsRow (w.heap.size + 1) 5 1 o i (vs (joL x B ls i)) ∧ wr.heap[w.heap.size]? = some (.cells (usL x B i).toArray 3 (0, 0)) ∧ (∀ j, j < i → cnt B (j / B % x) j < (ls (j / B % x)).length) ∧ Below w.heap.size w wr) (fun t _ _ => T - (intOf t).toNat)
      case atStart => exact ⟨0, Nat.zero_le _, rfl, World.ownsRow_nil _ _ _ _, U2.out, fun j hj => absurd hj (Nat.not_lt_zero j), B2.out⟩
      case round =>
        obtain ⟨i, hi, rfl, hown, hus, hall, hbl⟩ := hrel
        clear U2 B2
        have O1 := TW.hide hown
        have U1 := TW.hide hus
        have A1 := TW.hide hall
        have B1 := TW.hide hbl
        have hgl := blk_lt hus
        clear hown hus hall hbl
        by_cases hil : i < T
        · have hiI : (i : Int) < (T : Int) := by omega
          have hi0 : (0 : Int) ≤ (i : Int) := Int.natCast_nonneg _
          obtain ⟨q, hq⟩ : ∃ q, i / B = q := ⟨_, rfl⟩
          obtain ⟨l, hl⟩ : ∃ l, q % x = l := ⟨_, rfl⟩
          have hln : l < x := by rw [← hl]; exact Nat.mod_lt _ h0
          have hqi : q ≤ i := by rw [← hq]; exact Nat.div_le_self _ _
          have e1 : (i : Int) / (B : Int) = (q : Int) := by rw [← hq]; exact (Int.natCast_ediv i B).symm
          have e2 : (q : Int) % (x : Int) = (l : Int) := by rw [← hl]; exact (Int.natCast_emod q x).symm
          have e1' : (i : Int).tdiv (B : Int) = (q : Int) := by rw [Int.tdiv_eq_ediv_of_nonneg (by omega)]; exact e1
          have e2' : (q : Int).tmod (x : Int) = (l : Int) := by rw [Int.tmod_eq_emod_of_nonneg (by omega)]; exact e2
          have x1 : IntKind.i64.wrap (q : Int) = q := by rw [IntKind.wrap_i64]; omega
          have x2 : IntKind.i64.wrap (l : Int) = l := by rw [IntKind.wrap_i64]; omega
          have HLI : Hid (i / B % x = l) := by show _ = _; rw [hq, hl]
          have hB0' : ((B : Int) == 0) = false := by simp; omega
          have hlI : (0 : Int) ≤ (l : Int) := Int.natCast_nonneg _
          have hlJ : (l : Int) < (x : Int) := by omega
          clear hq hl
          have cl := (HMB.out wr B1.out).cell l hln
          have hroom := (HMB.out wr B1.out).room l hln
          have hlx := HLE.out l hln
          have hcu := blk_cell (i := l) U1.out (by rw [List.getElem?_toArray]; exact usL_get hln)
          have hcn := HCL.out i l
          have HRW := TW.hide ((HMB.out wr B1.out).row l hln)
          obtain ⟨cn, hcn1⟩ : ∃ cn, cnt B l i = cn := ⟨_, rfl⟩
          obtain ⟨ll, hll1⟩ : ∃ ll, (ls l).length = ll := ⟨_, rfl⟩
          rw [hcn1] at hcu hcn
          rw [hll1] at cl hlx hroom
          have HCN := TW.hide hcn1
          have HLL := TW.hide hll1
          clear hcn1 hll1
          generalize hax : A l = ax at *
          have HAX : Hid (A l = ax) := hax
          clear hax
          generalize K l = kx at *
          go_wp2_with fail
          refine (HBK.out _).mono ?_
          rintro e w1 ⟨rfl, rfl⟩
          by_cases hge : ll ≤ cn
          · have hgeI : (ll : Int) ≤ (cn : Int) := by omega
            have hgeJ : decide ((ll : Int) ≤ (cn : Int)) = true := by simpa using hgeI
            go_wp2
            go_quiet (fail)
            go_wp2
            refine HPO.out 80 [] _ _ (HR1.out fun hd => ?_) (World.ownsRow_nil _ _ _ _) (below_drewN B1.out _)
            have h1 := (HDI.out.1 hd) i hil
            rw [HLI.out, HCN.out, HLL.out] at h1
            omega
          · have hgeI : ¬ (ll : Int) ≤ (cn : Int) := by omega
            have hltI : (cn : Int) < (ll : Int) := by omega
            go_wp2
            go_quiet (fail)
            go_wp2
            have W2 := TW.hide (below_drewN (Below.refl wr.heap.size wr) nq)
            generalize wr.drewN nq = wq at *
            obtain ⟨bx, ox, rfl, hcz0⟩ : ∃ bx ox, ax = some ⟨bx, ox, none⟩ ∧ wr.cell? ⟨bx, ox + cn, none⟩ = some (.int .u8 ((ls l).getD cn 0)) := by
              rcases HRW.out with h1 | ⟨bx, ox, h1, h2⟩
              · have := HLL.out; rw [h1] at this; simp at this; omega
              · exact ⟨bx, ox, h1, h2 cn (by rw [HLL.out]; omega)⟩
            obtain ⟨z, hz⟩ : ∃ z, (ls l).getD cn 0 = z := ⟨_, rfl⟩
            rw [hz] at hcz0
            have HZ := TW.hide hz
            clear hz
            have hbx : bx < w.heap.size ∧ b < w.heap.size := by
              have M := HMB.out w (Below.refl _ _)
              refine ⟨?_, lt_of_cell (M.cell l hln)⟩
              have h1 := M.row l hln
              rw [HAX.out] at h1
              rcases h1 with h1 | ⟨b1, o1, h2, h3⟩
              · have := HLL.out; rw [h1] at this; simp at this; omega
              · cases h2
                exact lt_of_cell (h3 cn (by rw [HLL.out]; omega))
            refine wp_region_noPanic ?_
            refine RG.wp_region_L (fun Z => True) (fun Z => Z.cell? ⟨b, off + l, none⟩ = some (.slice (some ⟨bx, ox, none⟩) ll kx) ∧ Z.cell? ⟨w.heap.size, l, none⟩ = some (.int .i64 (cn : Int)) ∧ Z.cell? ⟨bx, ox + cn, none⟩ = some (.int .u8 z)) [] (by kernel_rfl) ?_
            refine RG.wpL_any fun Y hY => ?_
            have WY : Hid (Below wr.heap.size wr Y) := by rw [hY]; exact below_drewN W2.out 1
            have y1 : Y.cell? ⟨b, off + l, none⟩ = some (.slice (some ⟨bx, ox, none⟩) ll kx) := by rw [WY.out.cell (lt_of_cell cl)]; exact cl
            have y2 : Y.cell? ⟨w.heap.size, l, none⟩ = some (.int .i64 (cn : Int)) := by rw [WY.out.cell hgl]; exact hcu
            have y3 : Y.cell? ⟨bx, ox + cn, none⟩ = some (.int .u8 z) := by rw [WY.out.cell (lt_of_cell hcz0)]; exact hcz0
            have OY := TW.hide (own_below O1.out WY.out)
            have UY := TW.hide (blk_keep U1.out WY.out)
            have BY : Hid (Below w.heap.size w Y) := below_row B1.out WY.out B1.out.size
            have hgY : w.heap.size < Y.heap.size := blk_lt UY.out
            clear hY WY W2 O1 U1 B1 cl hcu hcz0 HRW
            refine RG.wpL_take (fuel := 3) (a' := ?At) [0, 1, 2, 3, 4, 5, 6, 7, 8, 9, 10] (by kernel_rfl) (by kernel_rfl) (fun _ _ _ _ _ h => h) ⟨y1, y2, y3⟩ (fun _ => trivial) ?rt ?_
            case rt =>
              refine RG.RunsIf.weak (v := ?_) (by rfl) (by rfl) (fun Z hT => ?_) ?_
              rotate_left
              · go_simp
                rfl
              simp only [Act.put, List.setIfInBounds_toArray, List.set_cons_zero, List.set_cons_succ, List.getElem_toArray, List.getElem_cons_zero, List.getElem_cons_succ]
              refine RG.RunsIf.weak (v := ?_) (by rfl) (by rfl) (fun Z hT => ?_) ?_
              rotate_left
              · go_simp
                rfl
              simp only [Act.put, List.setIfInBounds_toArray, List.set_cons_zero, List.set_cons_succ, List.getElem_toArray, List.getElem_cons_zero, List.getElem_cons_succ]
              refine RG.RunsIf.weak (v := ?_) (by rfl) (by rfl) (fun Z hT => ?_) ?_
              rotate_left
              · go_simp
                rfl
              simp only [Act.put, List.setIfInBounds_toArray, List.set_cons_zero, List.set_cons_succ, List.getElem_toArray, List.getElem_cons_zero, List.getElem_cons_succ]
              refine RG.RunsIf.weak (v := ?_) (by rfl) (by rfl) (fun Z hT => ?_) ?_
              rotate_left
              · go_simp
                rfl
              simp only [Act.put, List.setIfInBounds_toArray, List.set_cons_zero, List.set_cons_succ, List.getElem_toArray, List.getElem_cons_zero, List.getElem_cons_succ]
              refine RG.RunsIf.weak (v := .slice (some ⟨bx, ox, none⟩) ll kx) (by rfl) (by rfl) (fun Z hT => ?_) ?_
              · have cz := hT.1
                go_simp
              simp only [Act.put, List.setIfInBounds_toArray, List.set_cons_zero, List.set_cons_succ, List.getElem_toArray, List.getElem_cons_zero, List.getElem_cons_succ]
              refine RG.RunsIf.weak (v := ?_) (by rfl) (by rfl) (fun Z hT => ?_) ?_
              rotate_left
              · go_simp
                rfl
              simp only [Act.put, List.setIfInBounds_toArray, List.set_cons_zero, List.set_cons_succ, List.getElem_toArray, List.getElem_cons_zero, List.getElem_cons_succ]
              refine RG.RunsIf.weak (v := ?_) (by rfl) (by rfl) (fun Z hT => ?_) ?_
              rotate_left
              · go_simp
                rfl
              simp only [Act.put, List.setIfInBounds_toArray, List.set_cons_zero, List.set_cons_succ, List.getElem_toArray, List.getElem_cons_zero, List.getElem_cons_succ]
              refine RG.RunsIf.weak (v := ?_) (by rfl) (by rfl) (fun Z hT => ?_) ?_
              rotate_left
              · go_simp
                rfl
              simp only [Act.put, List.setIfInBounds_toArray, List.set_cons_zero, List.set_cons_succ, List.getElem_toArray, List.getElem_cons_zero, List.getElem_cons_succ]
              refine RG.RunsIf.weak (v := .int .i64 (cn : Int)) (by rfl) (by rfl) (fun Z hT => ?_) ?_
              · have cz := hT.2.1
                go_simp
              simp only [Act.put, List.setIfInBounds_toArray, List.set_cons_zero, List.set_cons_succ, List.getElem_toArray, List.getElem_cons_zero, List.getElem_cons_succ]
              refine RG.RunsIf.weak (v := ?_) (by rfl) (by rfl) (fun Z hT => ?_) ?_
              rotate_left
              · go_simp
                rfl
              simp only [Act.put, List.setIfInBounds_toArray, List.set_cons_zero, List.set_cons_succ, List.getElem_toArray, List.getElem_cons_zero, List.getElem_cons_succ]
              refine RG.RunsIf.weak (v := .int .u8 z) (by rfl) (by rfl) (fun Z hT => ?_) ?_
              · have cz := hT.2.2
                go_simp
              simp only [Act.put, List.setIfInBounds_toArray, List.set_cons_zero, List.set_cons_succ, List.getElem_toArray, List.getElem_cons_zero, List.getElem_cons_succ]
              exact RG.RunsIf.nil
            have A1' : Hid ((Y.alloc (.cells #[.int .u8 z] 5)).ownsRow (w.heap.size + 1) 5 1 u9 i (vs (joL x B ls i))) := OY.out.alloc _
            have A2' : Hid (Row (Y.alloc (.cells #[.int .u8 z] 5)) (some ⟨Y.heap.size, 0, none⟩) [z]) := .inr ⟨Y.heap.size, 0, rfl, fun i hi => by
              obtain rfl : i = 0 := by simpa using hi
              exact blk_cell (heap_alloc_new Y _) rfl⟩
            have A3' : Hid (Below w.heap.size w (Y.alloc (.cells #[.int .u8 z] 5))) := BY.out.alloc BY.out.size _
            have A4' := TW.hide (blk_alloc (o' := .cells #[.int .u8 z] 5) UY.out)
            have s1 : (Y.alloc (.cells #[.int .u8 z] 5)).cell? ⟨b, off + l, none⟩ = some (.slice (some ⟨bx, ox, none⟩) ll kx) := by rw [World.cell?_alloc_past _ _ _ (lt_of_cell y1)]; exact y1
            have s2 : (Y.alloc (.cells #[.int .u8 z] 5)).cell? ⟨w.heap.size, l, none⟩ = some (.int .i64 (cn : Int)) := by rw [World.cell?_alloc_past _ _ _ hgY]; exact y2
            have s3 : (Y.alloc (.cells #[.int .u8 z] 5)).cell? ⟨bx, ox + cn, none⟩ = some (.int .u8 z) := by rw [World.cell?_alloc_past _ _ _ (lt_of_cell y3)]; exact y3
            have hYs : (Y.alloc (.cells #[.int .u8 z] 5)).heap.size = Y.heap.size + 1 := by simp
            refine RG.wpL_step (i := 11) (by kernel_rfl) (by rfl) (by rfl) (fun KX hK => ?_)
            have HK := TW.hide hK
            clear hK
            go_simp
            refine HK.out _ _ ⟨s1, s2, s3⟩ (fun _ => trivial) ?_
            clear HK KX OY UY BY y1 y2 y3
            generalize Y.alloc (.cells #[.int .u8 z] 5) = X at *
            generalize Y.heap.size = gy at *
            refine RG.wpL_step (i := 12) (by kernel_rfl) (by rfl) (by rfl) (fun KX hK => ?_)
            have HK := TW.hide hK
            clear hK
            refine wp_append_bytes _ _ (by rfl) (w.heap.size + 1) u9 i (joL x B ls i) (by rfl) A1'.out ⟨gy, 0, none⟩ 1 1 [z] rfl (by rfl) A2'.out (by omega) (by omega) ?_
            intro v' w5 hown5 hgr5 hat5
            obtain ⟨av, cv, hv'⟩ := own_form hown5
            have hJ1 : joL x B ls i ++ [z] = joL x B ls (i + 1) := by
              rw [joL_succ, HLI.out, ← HCX.out, HLI.out, HCN.out, HZ.out]
            rw [hJ1] at hown5
            have O5 := TW.hide hown5
            have keep : ∀ bb oo vv, bb < w.heap.size + 1 → X.cell? ⟨bb, oo, none⟩ = some vv → w5.cell? ⟨bb, oo, none⟩ = some vv := fun bb oo vv h1 h2 => by
              rw [World.cell?_of_block (w := X) (hgr5.block bb (lt_of_cell h2) (fun e => by have := own_lt A1'.out e.symm; omega))]
              exact h2
            have U5 : Hid (w5.heap[w.heap.size]? = some (.cells (usL x B i).toArray 3 (0, 0))) := by
              show _ = _
              rw [hgr5.block _ (by omega) (fun e => by have := own_lt A1'.out e.symm; omega)]
              exact A4'.out
            have B5 : Hid (Below w.heap.size w w5) := A3'.out.grown hgr5 A3'.out.size (fun k hk => by have := own_lt A1'.out hk; omega)
            refine HK.out _ _ ⟨keep _ _ _ (by omega) s1, keep _ _ _ (by omega) s2, keep _ _ _ (by omega) s3⟩ (fun _ => trivial) ?_
            have k1 := keep _ _ _ (by omega) s1
            have k2 := keep _ _ _ (by omega) s2
            have k3 := keep _ _ _ (by omega) s3
            clear HK KX hown5 hgr5 hat5 A1' A2' A3' A4' s1 s2 s3 hJ1 keep
            rw [hv'] at O5 ⊢
            clear hv'
            simp only [Act.put, List.setIfInBounds_toArray, List.set_cons_zero, List.set_cons_succ, List.getElem_toArray, List.getElem_cons_zero, List.getElem_cons_succ]
            refine RG.wpL_take (fuel := 0) (a' := ?Au) [13] (by kernel_rfl) (by kernel_rfl) (fun _ _ _ _ _ h => h) ⟨k1, k2, k3⟩ (fun _ => trivial) ?ru ?_
            case ru =>
              refine RG.RunsIf.weak (v := ?_) (by rfl) (by rfl) (fun Z hT => ?_) ?_
              rotate_left
              · go_simp
                rfl
              simp only [Act.put, List.setIfInBounds_toArray, List.set_cons_zero, List.set_cons_succ, List.getElem_toArray, List.getElem_cons_zero, List.getElem_cons_succ]
              exact RG.RunsIf.nil
            refine RG.wpL_done (by kernel_rfl) ?_ _
            refine NoPanic.normal ?_
            clear k1 k3
            have hfz : w5.frozen? ⟨w.heap.size, l, none⟩ = false := by simp [World.frozen?, U5.out]
            have wc : IntKind.i64.wrap ((cn : Int) + 1) = (cn : Int) + 1 := by rw [IntKind.wrap_i64]; omega
            have O6 : Hid ((w5.setCell ⟨w.heap.size, l, none⟩ (.int .i64 ((cn : Int) + 1))).ownsRow (w.heap.size + 1) 5 1 (.slice av (i + 1) cv) (i + 1) (vs (joL x B ls (i + 1)))) := ownsRow_setCell_below O5.out (Nat.lt_succ_self _) _
            have U6 : Hid ((w5.setCell ⟨w.heap.size, l, none⟩ (.int .i64 ((cn : Int) + 1))).heap[w.heap.size]? = some (.cells (usL x B (i + 1)).toArray 3 (0, 0))) := by
              show _ = _
              rw [blk_set U5.out, ← HUS.out i, HLI.out, HCN.out]
              simp
            have B6 : Hid (Below w.heap.size w (w5.setCell ⟨w.heap.size, l, none⟩ (.int .i64 ((cn : Int) + 1)))) := B5.out.setCell (Nat.le_refl _) _
            clear O5 U5 B5
            go_wp2
            go_roundw
            case rel =>
              refine ⟨i + 1, by omega, by go_num, O6.out, U6.out, fun j hj => ?_, B6.out⟩
              by_cases e : j = i
              · subst e
                rw [HLI.out, HCN.out, HLL.out]; omega
              · exact A1.out j (by omega)
            case measure => simp [intOf]; omega
        · obtain rfl : i = T := by omega
          have hiI : ¬ (i : Int) < (i : Int) := by omega
          have O5 : Hid (wr.ownsRow w.heap.size 5 1 u9 (joL x B ls i).length (vs (joL x B ls i))) := by
            show World.ownsRow _ _ _ _ _ _ _
            rw [joL_length]
            exact own_mono' O1.out (Nat.le_succ _)
          go_wp2
          exact HPO.out 0 _ _ _ (HR2.out (HDI.out.2 A1.out)) O5.out B1.out
end LW
end Go.Proofs.Ythbakhgfnfdahaa
