/-
  The document's Read; both Reads of whatever text.
-/
import Derived.Test.YteakoajkmcbilabDoorRrB
namespace Go.Proofs.YteakoajkmcbilabDoor
open Go.RowKit Go.Shelf
set_option linter.unusedVariables false
set_option linter.unusedSimpArgs false
namespace LW
open Words Txt
/-- What the ends of the document's Read lean on. -/
structure TQ (W w : World) (B : Nat) : Prop where
  res : W.heap[B]? = some (.cells #[.int .i64 0, .int .i64 0, .int .i64 0, .int .i64 0, .int .u32 0, .int .u64 0, .int .u32 0, .int .i64 0, .int .i64 0, .slice none 0 0, .slice none 0 0] 26 (0, 0))
  non : W.heap[B + 1]? = some (.cells #[.int .i64 0, .int .i64 0, .int .i64 0, .int .i64 0, .int .u32 0, .int .u64 0, .int .u32 0, .int .i64 0, .int .i64 0, .slice none 0 0, .slice none 0 0] 26 (0, 0))
  bel : Below B w W
theorem TQ.drew {W w : World} {B : Nat} (h : TQ W w B) : TQ W.drew w B := ⟨h.res, h.non, h.bel.drew⟩
theorem TQ.setRow {W w : World} {B : Nat} (h : TQ W w B) : TQ (W.setRow B #[.int .i64 0, .int .i64 0, .int .i64 0, .int .i64 0, .int .u32 0, .int .u64 0, .int .u32 0, .int .i64 0, .int .i64 0, .slice none 0 0, .slice none 0 0]) w B := ⟨setRow_heap _ _ _ _ _ _ h.res, (setRow_other _ _ _ _ (by omega)).trans h.non, below_setRow h.bel (Nat.le_refl _)⟩
theorem TQ.below {W W' w : World} {B : Nat} (h : TQ W w B) (hb : Below W.heap.size W W') : TQ W' w B := ⟨blk_keep h.res hb, blk_keep h.non hb, below_row h.bel hb (by have := blk_lt h.res; omega)⟩
set_option maxRecDepth 100000 in
theorem results_rread (tmps : Array Value) (w : World) (q1 : Nat) (kd a y : Int) (cs : Array Value) (h2 : tmps.getD 2 undef = .int .i64 kd) (h3 : tmps.getD 3 undef = .pointer (some ⟨q1, 0, none⟩)) (h4 : tmps.getD 4 undef = .int .i64 a) (h5 : tmps.getD 5 undef = .int .i64 y)
    (c1 : w.heap[q1]? = some (.cells cs 26 (0, 0))) (hi : (Tryd.prog.info? 26).map (·.size) = some cs.size) :
    (results Tryd.f10 tmps).run Tryd.prog w = .ok (.tuple #[.int .i64 kd, .agg cs, .int .i64 a, .int .i64 y]) w := by
  have h2' : tmps[2]?.getD undef = .int .i64 kd := by simpa using h2
  have h3' : tmps[3]?.getD undef = .pointer (some ⟨q1, 0, none⟩) := by simpa using h3
  have h4' : tmps[4]?.getD undef = .int .i64 a := by simpa using h4
  have h5' : tmps[5]?.getD undef = .int .i64 y := by simpa using h5
  have r1 := run_loadVar_row w q1 26 26 cs (0, 0) _ c1 Tryd.underlying26 rfl hi
  simp [results, Tryd.results10, h2', h3', h4', h5', asAddr, r1]
theorem joinI_byt (ws : List (List Int)) (bs : ∀ v ∈ ws, Byt v) : Byt (joinI ws) := by
  induction ws with
  | nil => exact Byt.nil
  | cons v ws ih =>
    intro z hz
    simp only [joinI, List.mem_cons, List.mem_append] at hz
    rcases hz with rfl | hz | hz
    · omega
    · exact bs v (by simp) z hz
    · exact ih (fun v hv => bs v (by simp [hv])) z hz
theorem fldN_bd (w : List Int) (n : Nat) (hn : n ≤ 11) {k : Nat} {v : List Int} (h : fldN w n = some (k, v)) : 11 - n ≤ k ∧ k < 11 ∧ ∃ j, v = w.drop j := by
  induction n with
  | zero => cases h
  | succ n ih =>
    rw [fldN] at h
    split at h
    · injection h with h
      injection h with h1 h2
      exact ⟨by omega, by omega, _, h2.symm⟩
    · obtain ⟨i1, i2, i3⟩ := ih (by omega) h
      exact ⟨by omega, i2, i3⟩
theorem stepR_good {st st' : Rs} (hst : st.Good) {v : List Int} {at_ : Int} (hb : Byt v) (hl : v.length ≤ 512) (h : stepR st v at_ = some st') : st'.Good := by
  unfold stepR at h
  cases hf : fldN v (11 - st.r) with
  | none => rw [hf] at h; cases h
  | some kv =>
    obtain ⟨k, u⟩ := kv
    obtain ⟨k1, k2, j, rfl⟩ := fldN_bd v (11 - st.r) (by omega) hf
    rw [hf] at h
    simp only at h
    split at h
    · cases hn : numV (v.drop j) with
      | none => rw [hn] at h; cases h
      | some x =>
        rw [hn] at h
        injection h with h
        subst h
        exact ⟨setQ_ok hst.ok _ _ (numV_some hn).2, by simp only; omega, by simp [hst.n], hst.ls, hst.lt⟩
    · cases hn : bytV (v.drop j) with
      | none => rw [hn] at h; cases h
      | some x =>
        rw [hn] at h
        injection h with h
        subst h
        have hbd : Byt (v.drop j) := fun z hz => hb z (List.mem_of_mem_drop hz)
        obtain ⟨e, hbyt⟩ := bytV_some hbd hn
        have hlen : x.length ≤ 256 := by
          have : (v.drop j).length ≤ 512 := by simp; omega
          rw [e, hx_length] at this; omega
        refine ⟨hst.ok, by simp only; omega, by simp [hst.n], ?_, ?_⟩
        · simp only; split
          · exact hlen
          · exact hst.ls
        · simp only; split
          · exact hst.lt
          · exact hlen
theorem made_is (n : Nat) : (madeCells (Value.int .i64 0).cells (n * 1)).toList = (List.replicate n (0 : Int)).map (Value.int .i64) := by
  have e : (Value.int .i64 0).cells = #[.int .i64 0] := rfl
  rw [e]
  simp [madeCells, Nat.mod_one, List.map_const']
theorem infoI : (Tryd.prog.info? 3).map (fun i => (i.zero, i.size, i.bytes)) = some (some (.int .i64 0), 1, 8) := by kernel_rfl
theorem mkAt (w : World) : (Instr.makeSlice 84 (.int .i64 12) (.int .i64 12)).run Tryd.prog w = .ok (.slice (some ⟨w.heap.size, 0, none⟩) 12 12) (w.alloc (.cells ((0 :: List.replicate 11 (0 : Int)).map (Value.int .i64)).toArray 3)) := by
  obtain ⟨i0, hi, hz0, hz1, hz2⟩ := info_parts infoI
  have h1 := run_makeSlice (P := Tryd.prog) w 84 3 i0 (.int .i64 0) Tryd.underlying84 hi hz0 .i64 .i64 12 12 (by omega) (by omega) (by rw [hz1]; decide) (by rw [hz2]; decide) (by omega)
  rw [hz1] at h1
  have e : madeCells (Value.int .i64 0).cells (12 * 1) = ((0 :: List.replicate 11 (0 : Int)).map (Value.int .i64)).toArray := by
    apply Array.ext'
    rw [made_is]
    rfl
  have h2 : (Instr.makeSlice 84 (.int .i64 12) (.int .i64 12)).run Tryd.prog w = .ok (.slice (some ⟨w.heap.size, 0, none⟩) 12 12) (w.alloc (.cells (madeCells (Value.int .i64 0).cells (12 * 1)) 3)) := h1
  rw [e] at h2
  exact h2
theorem Lq.at_ {W w : World} {B p g : Nat} {st : Rs} {a1 a2 : Option Addr} {c1 c2 : Nat} (h : Lq W w B p g st a1 a2 c1 c2) (k f : Nat) (hf : f = k + 1) (hk : k < 11) (hn : st.ats.length = 11) (x : Int) : Lq (W.setCell ⟨g, f, none⟩ (.int .i64 x)) w B p g { st with ats := st.ats.set k x } a1 a2 c1 c2 := by
  subst hf
  have hpg := h.pg
  refine ⟨blk_other h.res (by omega), blk_other h.non (by omega), blk_other h.par (by omega), ?_, h.s.set (by omega) _, h.t.set (by omega) _, h.bel.setCell (show B ≤ g by omega) _, h.pg⟩
  have := blk_set (i := k + 1) (u := .int .i64 x) h.ats
  rw [this]
  congr 2
  apply Array.ext'
  simp [List.map_set]
theorem Lq.num {W w : World} {B p g : Nat} {st : Rs} {a1 a2 : Option Addr} {c1 c2 : Nat} (h : Lq W w B p g st a1 a2 c1 c2) (q : Pm) : Lq (W.setRow p (pcP q (.slice a1 st.s.length c1) (.slice a2 st.t.length c2))) w B p g { st with q := q } a1 a2 c1 c2 := by
  have hpg := h.pg
  exact ⟨(setRow_other _ _ _ _ (by omega)).trans h.res, (setRow_other _ _ _ _ (by omega)).trans h.non, setRow_heap _ _ _ _ _ _ h.par, (setRow_other _ _ _ _ (by omega)).trans h.ats, h.s.setRow (by omega) _, h.t.setRow (by omega) _, below_setRow h.bel (by omega), h.pg⟩
theorem Lq.salt {W w : World} {B p g : Nat} {st : Rs} {a1 a2 : Option Addr} {c1 c2 : Nat} (h : Lq W w B p g st a1 a2 c1 c2) (x : Option Addr) (c : Nat) (b : List Int) (hp : Pn W (g + 1) x c b) : Lq (W.setCell ⟨p, 9, none⟩ (.slice x b.length c)) w B p g { st with s := b } x a2 c c2 := by
  have hpg := h.pg
  exact ⟨blk_other h.res (by omega), blk_other h.non (by omega), blk_set (i := 9) (u := .slice x b.length c) h.par, blk_other h.ats (by omega), hp.set (by omega) _, h.t.set (by omega) _, h.bel.setCell (show B ≤ p by omega) _, h.pg⟩
theorem Lq.pers {W w : World} {B p g : Nat} {st : Rs} {a1 a2 : Option Addr} {c1 c2 : Nat} (h : Lq W w B p g st a1 a2 c1 c2) (x : Option Addr) (c : Nat) (b : List Int) (hp : Pn W (g + 1) x c b) : Lq (W.setCell ⟨p, 10, none⟩ (.slice x b.length c)) w B p g { st with t := b } a1 x c1 c := by
  have hpg := h.pg
  exact ⟨blk_other h.res (by omega), blk_other h.non (by omega), blk_set (i := 10) (u := .slice x b.length c) h.par, blk_other h.ats (by omega), h.s.set (by omega) _, hp.set (by omega) _, h.bel.setCell (show B ≤ p by omega) _, h.pg⟩
theorem Lq.as {W w : World} {B p g : Nat} {st st' : Rs} {a1 a2 : Option Addr} {c1 c2 : Nat} (h : Lq W w B p g st a1 a2 c1 c2) (hq : st'.q = st.q) (hs : st'.s = st.s) (ht : st'.t = st.t) (ha : st'.ats = st.ats) : Lq W w B p g st' a1 a2 c1 c2 := by
  obtain ⟨h1, h2, h3, h4, h5, h6, h7, h8⟩ := h
  refine ⟨h1, h2, ?_, ?_, ?_, ?_, h7, h8⟩
  · rw [hq, hs, ht]; exact h3
  · rw [ha]; exact h4
  · rw [hs]; exact h5
  · rw [ht]; exact h6
theorem lit2b : (strOfNums (knL 1)).toList = [50, 98] := by rw [ByteArray.toList_eq]; rfl
theorem lit2s : (strOfNums (knL 2)).toList = [50, 115] := by rw [ByteArray.toList_eq]; rfl
attribute [local go_sem ↓] Go.wp_at_zero Go.wp_at_succ
set_option maxRecDepth 100000 in
set_option maxHeartbeats 4000000 in
theorem rreadA (w0 : List Int) (ws : List (List Int)) (w : World) (b0 : Byt w0) (bs : ∀ v ∈ ws, Byt v) (h0 : ∀ z ∈ w0, z ≠ 32) (hs : ∀ v ∈ ws, ∀ z ∈ v, z ≠ 32) (hl : (w0 ++ joinI ws).length ≤ 512) :
    Calls Tryd.prog 10 #[.string (strOfNums (w0 ++ joinI ws))] w (ReadPost (rdF w0 ws) w) := by
  have hbt : Byt (w0 ++ joinI ws) := fun z hz => by
    rcases List.mem_append.1 hz with h | h
    · exact b0 z h
    · exact joinI_byt ws bs z h
  have hsz : ¬ (512 : Int) < (((strOfNums (w0 ++ joinI ws)).size : Nat) : Int) := by rw [strOf_size]; omega
  have HW0 : Hid (∀ W, Calls Tryd.prog 32 #[.string (strOfNums (w0 ++ joinI ws)), .int .i64 0] W fun e w' => e = .returned (.string (strOfNums w0)) ∧ W = w') := fun W => rword [] w0 (joinI ws) hbt h0 (by cases ws with
    | nil => exact .inl rfl
    | cons v ws => exact .inr ⟨_, rfl⟩) hl W
  have b1 := ((Below.refl w.heap.size w).alloc (Nat.le_refl _) (.cells #[.int .i64 0, .int .i64 0, .int .i64 0, .int .i64 0, .int .u32 0, .int .u64 0, .int .u32 0, .int .i64 0, .int .i64 0, .slice none 0 0, .slice none 0 0] 26)).alloc (by simp) (.cells #[.int .i64 0, .int .i64 0, .int .i64 0, .int .i64 0, .int .u32 0, .int .u64 0, .int .u32 0, .int .i64 0, .int .i64 0, .slice none 0 0, .slice none 0 0] 26)
  have q0 : ((w.alloc (.cells #[.int .i64 0, .int .i64 0, .int .i64 0, .int .i64 0, .int .u32 0, .int .u64 0, .int .u32 0, .int .i64 0, .int .i64 0, .slice none 0 0, .slice none 0 0] 26)).alloc (.cells #[.int .i64 0, .int .i64 0, .int .i64 0, .int .i64 0, .int .u32 0, .int .u64 0, .int .u32 0, .int .i64 0, .int .i64 0, .slice none 0 0, .slice none 0 0] 26)).heap[w.heap.size]? = some (.cells #[.int .i64 0, .int .i64 0, .int .i64 0, .int .i64 0, .int .u32 0, .int .u64 0, .int .u32 0, .int .i64 0, .int .i64 0, .slice none 0 0, .slice none 0 0] 26 (0, 0)) := blk_alloc (heap_alloc_new w _)
  have q1 := heap_alloc_new (w.alloc (.cells #[.int .i64 0, .int .i64 0, .int .i64 0, .int .i64 0, .int .u32 0, .int .u64 0, .int .u32 0, .int .i64 0, .int .i64 0, .slice none 0 0, .slice none 0 0] 26)) (.cells #[.int .i64 0, .int .i64 0, .int .i64 0, .int .i64 0, .int .u32 0, .int .u64 0, .int .u32 0, .int .i64 0, .int .i64 0, .slice none 0 0, .slice none 0 0] 26)
  rw [show (w.alloc (.cells #[.int .i64 0, .int .i64 0, .int .i64 0, .int .i64 0, .int .u32 0, .int .u64 0, .int .u32 0, .int .i64 0, .int .i64 0, .slice none 0 0, .slice none 0 0] 26)).heap.size = w.heap.size + 1 by simp] at q1
  generalize hline : strOfNums (w0 ++ joinI ws) = line at *
  go_enter Tryd.func10, Tryd.ntmps10
  refine wp_seq_k fun KK hK => ?_
  have HK := TW.hide hK
  clear hK
  go_wp2
  refine HK.out _ _ ?_
  clear HK KK
  refine wp_seq_k fun KK hK => ?_
  have HK := TW.hide hK
  clear hK
  go_wp2
  refine HK.out _ _ ?_
  clear HK KK
  generalize (w.alloc (.cells #[.int .i64 0, .int .i64 0, .int .i64 0, .int .i64 0, .int .u32 0, .int .u64 0, .int .u32 0, .int .i64 0, .int .i64 0, .slice none 0 0, .slice none 0 0] 26)).alloc (.cells #[.int .i64 0, .int .i64 0, .int .i64 0, .int .i64 0, .int .u32 0, .int .u64 0, .int .u32 0, .int .i64 0, .int .i64 0, .slice none 0 0, .slice none 0 0] 26) = X at *
  generalize hB : w.heap.size = B at *
  have HT0 : Hid (TQ X w B) := ⟨q0, q1, b1⟩
  clear q0 q1 b1
  refine wp_seq_k fun KK hK => ?_
  have HK := TW.hide hK
  clear hK
  go_wp2_with fail
  refine HK.out _ _ ?_
  clear HK KK
  refine wp_seq_k fun KK hK => ?_
  have HK := TW.hide hK
  clear hK
  go_wp2_with fail
  refine HK.out _ _ ?_
  clear HK KK
  refine wp_seq_k fun KK hK => ?_
  have HK := TW.hide hK
  clear hK
  by_cases hk12 : w0 = knL 1 ∨ w0 = knL 2
  rotate_left
  · have e1 : ((strOfNums w0).toList == [50, 98]) = false := by rw [← lit2b]; exact strOf_eqF b0 (knL_byt 1) (fun h => hk12 (.inl h))
    have e2 : ((strOfNums w0).toList == [50, 115]) = false := by rw [← lit2s]; exact strOf_eqF b0 (knL_byt 2) (fun h => hk12 (.inr h))
    have HF : Hid (rdF w0 ws = .inr (0, 4)) := by
      show _ = _
      rw [rdF, if_neg (fun h => hk12 (.inl h)), if_neg (fun h => hk12 (.inr h))]
    go_wp2_with fail
    refine (HW0.out _).mono ?_
    rintro e w1 ⟨rfl, rfl⟩
    go_wp2_with fail
    refine wp_region_noPanic ?_
    refine RG.wp_region_L (fun Z => True) (fun Z => TQ Z w B) [] (by kernel_rfl) ?_
    refine RG.wpL_any fun Ya hY => ?_
    have HTa : Hid (TQ Ya w B) := by rw [hY]; exact HT0.out.drew
    clear hY
    refine RG.wpL_take (fuel := 3) (a' := ?Aa) [0, 1] (by kernel_rfl) (by kernel_rfl) (fun _ _ _ _ _ h => h) HTa.out (fun _ => trivial) ?ra ?_
    case ra =>
      refine RG.RunsIf.weak (v := .agg #[.int .i64 0, .int .i64 0, .int .i64 0, .int .i64 0, .int .u32 0, .int .u64 0, .int .u32 0, .int .i64 0, .int .i64 0, .slice none 0 0, .slice none 0 0]) (by rfl) (by rfl) (fun Z hT => exec_load_row' 26 _ (by rfl) (B + 1) (by rfl) 26 #[.int .i64 0, .int .i64 0, .int .i64 0, .int .i64 0, .int .u32 0, .int .u64 0, .int .u32 0, .int .i64 0, .int .i64 0, .slice none 0 0, .slice none 0 0] (0, 0) _ hT.non Tryd.underlying26 rfl (by kernel_rfl)) ?_
      simp only [Act.put, List.setIfInBounds_toArray, List.set_cons_zero, List.set_cons_succ, List.getElem_toArray, List.getElem_cons_zero, List.getElem_cons_succ]
      refine RG.RunsIf.weak (v := ?_) (by rfl) (by rfl) (fun Z hT => ?_) ?_
      rotate_left
      · go_simp
        rfl
      simp only [Act.put, List.setIfInBounds_toArray, List.set_cons_zero, List.set_cons_succ, List.getElem_toArray, List.getElem_cons_zero, List.getElem_cons_succ]
      exact RG.RunsIf.nil
    have HUa : Hid (TQ (Ya.setRow B #[.int .i64 0, .int .i64 0, .int .i64 0, .int .i64 0, .int .u32 0, .int .u64 0, .int .u32 0, .int .i64 0, .int .i64 0, .slice none 0 0, .slice none 0 0]) w B) := HTa.out.setRow
    refine RG.wpL_step (i := 2) (by kernel_rfl) (by rfl) (by rfl) (fun KX hK => ?_)
    have HKX := TW.hide hK
    clear hK
    refine wp_store_row 26 _ _ (by rfl) B #[.int .i64 0, .int .i64 0, .int .i64 0, .int .i64 0, .int .u32 0, .int .u64 0, .int .u32 0, .int .i64 0, .int .i64 0, .slice none 0 0, .slice none 0 0] (by rfl) (by rfl) 26 _ HTa.out.res (by kernel_rfl) (by rfl) (by kernel_rfl) ?_
    simp only [Act.put, List.setIfInBounds_toArray, List.set_cons_zero, List.set_cons_succ, List.getElem_toArray, List.getElem_cons_zero, List.getElem_cons_succ]
    refine HKX.out _ _ HUa.out (fun _ => trivial) ?_
    clear HKX KX HTa
    generalize Ya.setRow B #[.int .i64 0, .int .i64 0, .int .i64 0, .int .i64 0, .int .u32 0, .int .u64 0, .int .u32 0, .int .i64 0, .int .i64 0, .slice none 0 0, .slice none 0 0] = Va at *
    refine RG.wpL_take (fuel := 0) (a' := ?Ba) [3, 4] (by kernel_rfl) (by kernel_rfl) (fun _ _ _ _ _ h => h) HUa.out (fun _ => trivial) ?sa ?_
    case sa =>
      refine RG.RunsIf.weak (v := ?_) (by rfl) (by rfl) (fun Z hT => ?_) ?_
      rotate_left
      · go_simp
        rfl
      simp only [Act.put, List.setIfInBounds_toArray, List.set_cons_zero, List.set_cons_succ, List.getElem_toArray, List.getElem_cons_zero, List.getElem_cons_succ]
      refine RG.RunsIf.weak (v := ?_) (by rfl) (by rfl) (fun Z hT => ?_) ?_
      rotate_left
      · go_simp
        rfl
      simp only [Act.put, List.setIfInBounds_toArray, List.set_cons_zero, List.set_cons_succ, List.getElem_toArray, List.getElem_cons_zero, List.getElem_cons_succ]
      exact RG.RunsIf.nil
    refine RG.wpL_done (by kernel_rfl) ?_ _
    refine NoPanic.normal ?_
    go_wp2
    refine bodyPost_ret (v := .tuple #[.int .i64 0, .agg #[.int .i64 0, .int .i64 0, .int .i64 0, .int .i64 0, .int .u32 0, .int .u64 0, .int .u32 0, .int .i64 0, .int .i64 0, .slice none 0 0, .slice none 0 0], .int .i64 0, .int .i64 4]) (results_rread _ _ B 0 0 4 #[.int .i64 0, .int .i64 0, .int .i64 0, .int .i64 0, .int .u32 0, .int .u64 0, .int .u32 0, .int .i64 0, .int .i64 0, .slice none 0 0, .slice none 0 0] rfl rfl rfl rfl HUa.out.res (by kernel_rfl)) rfl ?_
    rw [HF.out]
    refine ⟨?_, rfl⟩
    rw [hB]
    exact HUa.out.bel

  obtain ⟨kd, hk, rfl⟩ : ∃ kd, (kd = 1 ∨ kd = 2) ∧ w0 = knL kd := by
    rcases hk12 with h | h
    · exact ⟨1, .inl rfl, h⟩
    · exact ⟨2, .inr rfl, h⟩
  clear hk12
  rw [rdF_kn hk]
  have HAF : Hid (∀ u24 u25 u26 u27 u28 u29 u30 u31 u32 u33 u34 u35 : Value, KK { tmps := #[.string line, undef, .int .i64 0, .pointer (some ⟨B, 0, none⟩), .int .i64 0, .int .i64 0, .pointer (some ⟨B + 1, 0, none⟩), .int .i64 kd, undef, undef, undef, undef, undef, undef, undef, undef, undef, undef, undef, undef, undef, undef, undef, undef, u24, u25, u26, u27, u28, u29, u30, u31, u32, u33, u34, u35, undef, undef, undef, undef, undef, undef, undef, undef, undef, undef, undef, undef, undef, undef, undef, undef, undef, undef, undef, undef, undef, undef, undef, undef, undef, undef, undef, undef, undef, undef, undef, undef, undef, undef, undef, undef, undef, undef, undef, undef, undef, undef, undef, undef, undef, undef, undef, undef, undef, undef, undef, undef, undef, undef, undef, undef, undef, undef, undef, undef, undef, undef, undef, undef, undef, undef, undef, undef, undef, undef, undef, undef, undef, undef, undef, undef, undef, undef, undef, undef, undef, undef, undef, undef, undef, undef, undef, undef, undef, undef, undef, undef, undef, undef, undef, undef, undef, undef, undef, undef, undef, undef, undef, undef, undef, undef, undef, undef, undef, undef, undef, undef, undef, undef, undef, undef, undef, undef, undef, undef], defers := [] } X) := by
    intro u24 u25 u26 u27 u28 u29 u30 u31 u32 u33 u34 u35
    refine HK.out _ _ ?_
    clear HK KK HW0
    have HPL := TW.hide (rplainU hk)
    refine wp_seq_k fun KK hK => ?_
    have HK := TW.hide hK
    clear hK
    go_wp2_with fail
    refine (rmost kd _).mono ?_
    rintro e w1 ⟨rfl, rfl⟩
    go_wp2_with fail
    refine (HPL.out _).mono ?_
    rintro e w2 ⟨⟨E, rfl⟩, hb⟩
    have HT2 := TW.hide (HT0.out.below hb)
    clear hb HT0 HPL
    go_wp2_with (first | (refine wpList_store_row (by rfl) 26 _ _ (by rfl) (w2.heap.size) (pcP (usP kd) (.slice none 0 0) (.slice none 0 0)) (by rfl) (by rfl) 26 _ (heap_new w2 _) (info31 _ _ _) (pc_size Pm.zero _ _ _ _ _) (pc_one _ _ _ _ _ _ _) ?_))
    have np := setRow_heap _ _ _ (pcP (usP kd) (.slice none 0 0) (.slice none 0 0)) _ _ (heap_new w2 (.cells #[.int .i64 0, .int .i64 0, .int .i64 0, .int .i64 0, .int .u32 0, .int .u64 0, .int .u32 0, .int .i64 0, .int .i64 0, .slice none 0 0, .slice none 0 0] 26))
    have bx := below_setRow (cs := (pcP (usP kd) (.slice none 0 0) (.slice none 0 0))) ((Below.refl w2.heap.size w2).alloc (Nat.le_refl _) (.cells #[.int .i64 0, .int .i64 0, .int .i64 0, .int .i64 0, .int .u32 0, .int .u64 0, .int .u32 0, .int .i64 0, .int .i64 0, .slice none 0 0, .slice none 0 0] 26)) (g := w2.heap.size) (Nat.le_refl _)
    generalize (w2.alloc (.cells #[.int .i64 0, .int .i64 0, .int .i64 0, .int .i64 0, .int .u32 0, .int .u64 0, .int .u32 0, .int .i64 0, .int .i64 0, .slice none 0 0, .slice none 0 0] 26)).setRow w2.heap.size (pcP (usP kd) (.slice none 0 0) (.slice none 0 0)) = X1 at np bx ⊢

    have HT3 := TW.hide (HT2.out.below bx)
    have NP := TW.hide np
    have hp1 := blk_lt HT2.out.non
    generalize w2.heap.size = p at *
    have hp2 := blk_lt np
    clear np bx HT2
    refine HK.out _ _ ?_
    clear HK KK
    refine wp_seq_k fun KK hK => ?_
    have HK := TW.hide hK
    clear hK
    have hmk := mkAt X1
    go_wp2
    refine HK.out _ _ ?_
    clear HK KK hmk
    have ng := heap_alloc_new X1 (.cells #[.int .i64 0, .int .i64 0, .int .i64 0, .int .i64 0, .int .i64 0, .int .i64 0, .int .i64 0, .int .i64 0, .int .i64 0, .int .i64 0, .int .i64 0, .int .i64 0] 3)
    have hbx := (Below.refl X1.heap.size X1).alloc (Nat.le_refl _) (.cells #[.int .i64 0, .int .i64 0, .int .i64 0, .int .i64 0, .int .i64 0, .int .i64 0, .int .i64 0, .int .i64 0, .int .i64 0, .int .i64 0, .int .i64 0, .int .i64 0] 3)
    have HT4 := TW.hide (HT3.out.below hbx)
    have np2 := blk_keep NP.out hbx
    generalize X1.alloc _ = X2 at *
    generalize X1.heap.size = g at *
    have HL0 : Hid (Lq X2 w B p g (initR kd) none none 0 0) := ⟨HT4.out.res, HT4.out.non, np2, by rw [show ((0 :: (initR kd).ats).map (Value.int .i64)).toArray = _ from zero12]; exact ng, Pn_nil _ _, Pn_nil _ _, HT4.out.bel, by omega, by omega⟩
    clear ng hbx np2 HT3 HT4 NP
    have hkl : (knL kd).length = 2 := by rcases hk with rfl | rfl <;> rfl
    refine wp_seq_k fun KK hK => ?_
    have HK := TW.hide hK
    clear hK
    go_wp2
    refine HK.out _ _ ?_
    clear HK KK
    refine wp_seq_k fun KK hK => ?_
    have HKL := TW.hide hK
    clear hK
    go_wp2
    go_loopw [11, 12, 13, 14] (fun la lt wh i wr => ∃ (st : Rs) (rest : List (List Int)) (pre : List Int) (a1 a2 : Option Addr) (c1 c2 : Nat), la = .int .i64 st.r ∧ lt = .int .i64 st.ww ∧ wh = .int .i64 st.wa ∧ i = .int .i64 pre.length ∧ knL kd ++ joinI ws = pre ++ joinI rest ∧ (∀ v ∈ rest, Byt v) ∧ (∀ v ∈ rest, ∀ z ∈ v, z ≠ 32) ∧ runR (initR kd) ws 3 = runR st rest ((pre.length : Int) + 1) ∧ st.Good ∧ Lq wr w B p g st a1 a2 c1 c2) (fun _ _ _ i _ => 600 - (intOf i).toNat)
    case atStart => exact ⟨initR kd, ws, knL kd, none, none, 0, 0, rfl, rfl, rfl, by rw [hkl]; rfl, rfl, bs, hs, by rw [hkl]; rfl, initR_good kd, HL0.out⟩
    case round =>
      obtain ⟨st, rest, pre, a1, a2, c1, c2, rfl, rfl, rfl, rfl, hsp, hbr, hsr, hrun, hst, hLq⟩ := hrel
      cases rest with
      | nil =>
        have hlen : line.size = pre.length := by rw [← hline, strOf_size, hsp]; simp [joinI]
        have HRD : Hid (rdF (knL kd) ws = if st.ww = 0 then (if st.q.ck kd st.s.length st.t.length = 0 then .inl (kd, st) else .inr (blN st.ats (st.q.ck kd st.s.length st.t.length) 11, st.q.ck kd st.s.length st.t.length)) else .inr (st.wa, st.ww)) := by
          show _ = _
          rw [rdF_kn hk, rdK, hrun]
          rfl
        have HQ := TW.hide hLq
        have hcn : ¬ ((pre.length : Nat) : Int) < (line.size : Int) := by omega
        clear hLq hsp hbr hsr hrun
        generalize pre.length = n at *
        go_wp2
        refine HKL.out _ _ ?_
        clear HKL hcn
        refine wp_seq_k fun KK hK => ?_
        have HK := TW.hide hK
        clear hK
        by_cases hww : st.ww = 0
        rotate_left
        · have hwb : (st.ww != 0) = true := bne0 hww
          have HT : Hid (TQ wr w B) := ⟨HQ.out.res, HQ.out.non, HQ.out.bel⟩
          have HF : Hid (rdF (knL kd) ws = .inr (st.wa, st.ww)) := by show _ = _; rw [HRD.out, if_neg hww]
          generalize st.wa = wa at *
          generalize st.ww = ww at *
          go_wp2_with fail
          refine wp_region_noPanic ?_
          refine RG.wp_region_L (fun Z => True) (fun Z => TQ Z w B) [] (by kernel_rfl) ?_
          refine RG.wpL_any fun Yb hY => ?_
          have HTb : Hid (TQ Yb w B) := by rw [hY]; exact HT.out.drew
          clear hY
          refine RG.wpL_take (fuel := 3) (a' := ?Ab) [0, 1, 2, 3] (by kernel_rfl) (by kernel_rfl) (fun _ _ _ _ _ h => h) HTb.out (fun _ => trivial) ?rb ?_
          case rb =>
            refine RG.RunsIf.weak (v := .agg #[.int .i64 0, .int .i64 0, .int .i64 0, .int .i64 0, .int .u32 0, .int .u64 0, .int .u32 0, .int .i64 0, .int .i64 0, .slice none 0 0, .slice none 0 0]) (by rfl) (by rfl) (fun Z hT => exec_load_row' 26 _ (by rfl) (B + 1) (by rfl) 26 #[.int .i64 0, .int .i64 0, .int .i64 0, .int .i64 0, .int .u32 0, .int .u64 0, .int .u32 0, .int .i64 0, .int .i64 0, .slice none 0 0, .slice none 0 0] (0, 0) _ hT.non Tryd.underlying26 rfl (by kernel_rfl)) ?_
            simp only [Act.put, List.setIfInBounds_toArray, List.set_cons_zero, List.set_cons_succ, List.getElem_toArray, List.getElem_cons_zero, List.getElem_cons_succ]
            refine RG.RunsIf.weak (v := ?_) (by rfl) (by rfl) (fun Z hT => ?_) ?_
            rotate_left
            · go_simp
              rfl
            simp only [Act.put, List.setIfInBounds_toArray, List.set_cons_zero, List.set_cons_succ, List.getElem_toArray, List.getElem_cons_zero, List.getElem_cons_succ]
            refine RG.RunsIf.weak (v := ?_) (by rfl) (by rfl) (fun Z hT => ?_) ?_
            rotate_left
            · go_simp
              rfl
            simp only [Act.put, List.setIfInBounds_toArray, List.set_cons_zero, List.set_cons_succ, List.getElem_toArray, List.getElem_cons_zero, List.getElem_cons_succ]
            refine RG.RunsIf.weak (v := ?_) (by rfl) (by rfl) (fun Z hT => ?_) ?_
            rotate_left
            · go_simp
              rfl
            simp only [Act.put, List.setIfInBounds_toArray, List.set_cons_zero, List.set_cons_succ, List.getElem_toArray, List.getElem_cons_zero, List.getElem_cons_succ]
            exact RG.RunsIf.nil
          have HUb : Hid (TQ (Yb.setRow B #[.int .i64 0, .int .i64 0, .int .i64 0, .int .i64 0, .int .u32 0, .int .u64 0, .int .u32 0, .int .i64 0, .int .i64 0, .slice none 0 0, .slice none 0 0]) w B) := HTb.out.setRow
          refine RG.wpL_step (i := 4) (by kernel_rfl) (by rfl) (by rfl) (fun KX hK => ?_)
          have HKX := TW.hide hK
          clear hK
          refine wp_store_row 26 _ _ (by rfl) B #[.int .i64 0, .int .i64 0, .int .i64 0, .int .i64 0, .int .u32 0, .int .u64 0, .int .u32 0, .int .i64 0, .int .i64 0, .slice none 0 0, .slice none 0 0] (by rfl) (by rfl) 26 _ HTb.out.res (by kernel_rfl) (by rfl) (by kernel_rfl) ?_
          simp only [Act.put, List.setIfInBounds_toArray, List.set_cons_zero, List.set_cons_succ, List.getElem_toArray, List.getElem_cons_zero, List.getElem_cons_succ]
          refine HKX.out _ _ HUb.out (fun _ => trivial) ?_
          clear HKX KX HTb
          generalize Yb.setRow B #[.int .i64 0, .int .i64 0, .int .i64 0, .int .i64 0, .int .u32 0, .int .u64 0, .int .u32 0, .int .i64 0, .int .i64 0, .slice none 0 0, .slice none 0 0] = Vb at *
          refine RG.wpL_take (fuel := 0) (a' := ?Bb) [5, 6] (by kernel_rfl) (by kernel_rfl) (fun _ _ _ _ _ h => h) HUb.out (fun _ => trivial) ?sb ?_
          case sb =>
            refine RG.RunsIf.weak (v := ?_) (by rfl) (by rfl) (fun Z hT => ?_) ?_
            rotate_left
            · go_simp
              rfl
            simp only [Act.put, List.setIfInBounds_toArray, List.set_cons_zero, List.set_cons_succ, List.getElem_toArray, List.getElem_cons_zero, List.getElem_cons_succ]
            refine RG.RunsIf.weak (v := ?_) (by rfl) (by rfl) (fun Z hT => ?_) ?_
            rotate_left
            · go_simp
              rfl
            simp only [Act.put, List.setIfInBounds_toArray, List.set_cons_zero, List.set_cons_succ, List.getElem_toArray, List.getElem_cons_zero, List.getElem_cons_succ]
            exact RG.RunsIf.nil
          refine RG.wpL_done (by kernel_rfl) ?_ _
          refine NoPanic.normal ?_
          go_wp2
          refine bodyPost_ret (v := .tuple #[.int .i64 0, .agg #[.int .i64 0, .int .i64 0, .int .i64 0, .int .i64 0, .int .u32 0, .int .u64 0, .int .u32 0, .int .i64 0, .int .i64 0, .slice none 0 0, .slice none 0 0], .int .i64 wa, .int .i64 ww]) (results_rread _ _ B 0 wa ww #[.int .i64 0, .int .i64 0, .int .i64 0, .int .i64 0, .int .u32 0, .int .u64 0, .int .u32 0, .int .i64 0, .int .i64 0, .slice none 0 0, .slice none 0 0] rfl rfl rfl rfl HUb.out.res (by kernel_rfl)) rfl ?_
          rw [HF.out]
          refine ⟨?_, rfl⟩
          rw [hB]
          exact HUb.out.bel

        have HF := HRD.out
        rw [if_pos hww] at HF
        have hwb : (st.ww != 0) = false := by simp [hww]
        have HFF := TW.hide HF
        clear HF HRD
        have HKQ := TW.hide hww
        clear hww
        go_wp2_with fail
        refine HK.out _ _ ?_
        clear HK KK
        refine wp_seq_k fun KK hK => ?_
        have HK := TW.hide hK
        clear hK
        go_wp2_with (refine wpList_val (.agg (pcP st.q (.slice a1 st.s.length c1) (.slice a2 st.t.length c2))) (by rfl) (exec_load_row' 26 _ (by rfl) (p) (by rfl) 26 (pcP st.q (.slice a1 st.s.length c1) (.slice a2 st.t.length c2)) (0, 0) _ HQ.out.par Tryd.underlying26 rfl (info31 _ _ _)) ?_; simp only [Act.put, List.setIfInBounds_toArray, List.set_cons_zero, List.set_cons_succ, List.getElem_toArray, List.getElem_cons_zero, List.getElem_cons_succ])
        refine (rnormalP kd st.q hst.ok a1 a2 c1 c2 st.s st.t wr HQ.out.s.toPb HQ.out.t.toPb).mono ?_
        rintro e w2 ⟨x, y, rfl, ox, oy, hb⟩
        have hres0 := TW.hide HQ.out.res
        have HQ2 := TW.hide (HQ.out.below hb)
        clear HQ hb
        by_cases hE : st.q.ck kd st.s.length st.t.length = 0
        · have HF := HFF.out
          rw [if_pos hE] at HF
          have HFG := TW.hide HF
          clear HF HFF
          simp only [hE, nP, nS, if_true] at ox oy ⊢
          obtain ⟨b1, d1, rfl, p1⟩ := Pn.own (s := tr st.s) ox (by have := tr_le st.s; have := hst.ls; omega) (Byt.tr HQ2.out.s.byt)
          obtain ⟨b2, d2, rfl, p2⟩ := Pn.own (s := tr st.t) oy (by have := tr_le st.t; have := hst.lt; omega) (Byt.tr HQ2.out.t.byt)
          clear ox oy hE
          go_wp2_with (first | (refine wpList_store_row (by rfl) 26 _ _ (by rfl) (w2.heap.size) (pcP st.q (.slice b1 (tr st.s).length d1) (.slice b2 (tr st.t).length d2)) (by rfl) (by rfl) 26 _ (heap_new w2 _) (info31 _ _ _) (pc_size Pm.zero _ _ _ _ _) (pc_one _ _ _ _ _ _ _) ?_))
          have nq := setRow_heap _ _ _ (pcP st.q (.slice b1 (tr st.s).length d1) (.slice b2 (tr st.t).length d2)) _ _ (heap_new w2 (.cells #[.int .i64 0, .int .i64 0, .int .i64 0, .int .i64 0, .int .u32 0, .int .u64 0, .int .u32 0, .int .i64 0, .int .i64 0, .slice none 0 0, .slice none 0 0] 26))
          have bx := below_setRow (cs := (pcP st.q (.slice b1 (tr st.s).length d1) (.slice b2 (tr st.t).length d2))) ((Below.refl w2.heap.size w2).alloc (Nat.le_refl _) (.cells #[.int .i64 0, .int .i64 0, .int .i64 0, .int .i64 0, .int .u32 0, .int .u64 0, .int .u32 0, .int .i64 0, .int .i64 0, .slice none 0 0, .slice none 0 0] 26)) (g := w2.heap.size) (Nat.le_refl _)
          generalize (w2.alloc (.cells #[.int .i64 0, .int .i64 0, .int .i64 0, .int .i64 0, .int .u32 0, .int .u64 0, .int .u32 0, .int .i64 0, .int .i64 0, .slice none 0 0, .slice none 0 0] 26)).setRow w2.heap.size (pcP st.q (.slice b1 (tr st.s).length d1) (.slice b2 (tr st.t).length d2)) = X3 at nq bx ⊢

          have hBl := blk_lt HQ2.out.res
          have HY0 := TW.hide (blk_keep HQ2.out.res bx)
          have HP1 := TW.hide (p1.below bx)
          have HP2 := TW.hide (p2.below bx)
          have HB3 : Hid (Below B w X3) := below_row HQ2.out.bel bx (by omega)
          have hqB : B < w2.heap.size := hBl
          have HNQ := TW.hide nq
          have hwB : B < wr.heap.size := blk_lt hres0.out
          clear nq bx p1 p2 HQ2
          generalize w2.heap.size = qb at *
          refine HK.out _ _ ?_
          clear HK KK
          refine wp_seq_k fun KK hK => ?_
          have HK := TW.hide hK
          clear hK
          go_wp2_with fail
          refine HK.out _ _ ?_
          clear HK KK
          refine wp_seq_k fun KK hK => ?_
          have HK := TW.hide hK
          clear hK
          refine wp_region_noPanic ?_
          refine RG.wp_region_L (fun Z => True) (fun Z => Z.heap[qb]? = some (.cells (pcP st.q (.slice b1 (tr st.s).length d1) (.slice b2 (tr st.t).length d2)) 26 (0, 0))) [] (by kernel_rfl) ?_
          refine RG.wpL_any fun Y hY => ?_
          have HTo : Hid (Y.heap[qb]? = some (.cells (pcP st.q (.slice b1 (tr st.s).length d1) (.slice b2 (tr st.t).length d2)) 26 (0, 0))) := by rw [hY]; exact HNQ.out
          have yb : Y.heap[B]? = some (.cells #[.int .i64 0, .int .i64 0, .int .i64 0, .int .i64 0, .int .u32 0, .int .u64 0, .int .u32 0, .int .i64 0, .int .i64 0, .slice none 0 0, .slice none 0 0] 26 (0, 0)) := by rw [hY]; exact HY0.out
          have PY1 := TW.hide (HP1.out.below ((Below.refl X3.heap.size X3).drew))
          have PY2 := TW.hide (HP2.out.below ((Below.refl X3.heap.size X3).drew))
          have BY : Hid (Below B w Y) := by rw [hY]; exact HB3.out.drew
          rw [← hY] at PY1 PY2
          clear hY HP1 HP2 HB3 HY0 HNQ
          refine RG.wpL_take (fuel := 3) (a' := ?Ao) [0, 1, 2] (by kernel_rfl) (by kernel_rfl) (fun _ _ _ _ _ h => h) HTo.out (fun _ => trivial) ?ro ?_
          case ro =>
            refine RG.RunsIf.weak (v := ?_) (by rfl) (by rfl) (fun Z hT => ?_) ?_
            rotate_left
            · go_simp
              rfl
            simp only [Act.put, List.setIfInBounds_toArray, List.set_cons_zero, List.set_cons_succ, List.getElem_toArray, List.getElem_cons_zero, List.getElem_cons_succ]
            refine RG.RunsIf.weak (v := .agg (pcP st.q (.slice b1 (tr st.s).length d1) (.slice b2 (tr st.t).length d2))) (by rfl) (by rfl) (fun Z hT => exec_load_row' 26 _ (by rfl) qb (by rfl) 26 (pcP st.q (.slice b1 (tr st.s).length d1) (.slice b2 (tr st.t).length d2)) (0, 0) _ hT Tryd.underlying26 rfl (info31 _ _ _)) ?_
            simp only [Act.put, List.setIfInBounds_toArray, List.set_cons_zero, List.set_cons_succ, List.getElem_toArray, List.getElem_cons_zero, List.getElem_cons_succ]
            refine RG.RunsIf.weak (v := ?_) (by rfl) (by rfl) (fun Z hT => ?_) ?_
            rotate_left
            · go_simp
              rfl
            simp only [Act.put, List.setIfInBounds_toArray, List.set_cons_zero, List.set_cons_succ, List.getElem_toArray, List.getElem_cons_zero, List.getElem_cons_succ]
            exact RG.RunsIf.nil
          have r1 := setRow_heap _ _ _ (pcP st.q (.slice b1 (tr st.s).length d1) (.slice b2 (tr st.t).length d2)) _ _ yb
          have rq : Hid ((Y.setRow B (pcP st.q (.slice b1 (tr st.s).length d1) (.slice b2 (tr st.t).length d2))).heap[qb]? = some (.cells (pcP st.q (.slice b1 (tr st.s).length d1) (.slice b2 (tr st.t).length d2)) 26 (0, 0))) := (setRow_other _ _ _ _ (by omega)).trans HTo.out
          have PZ1 := TW.hide (PY1.out.setRow (g := B) (by omega) (pcP st.q (.slice b1 (tr st.s).length d1) (.slice b2 (tr st.t).length d2)))
          have PZ2 := TW.hide (PY2.out.setRow (g := B) (by omega) (pcP st.q (.slice b1 (tr st.s).length d1) (.slice b2 (tr st.t).length d2)))
          have BZ : Hid (Below B w (Y.setRow B (pcP st.q (.slice b1 (tr st.s).length d1) (.slice b2 (tr st.t).length d2)))) := below_setRow BY.out (Nat.le_refl _)
          refine RG.wpL_step (i := 3) (by kernel_rfl) (by rfl) (by rfl) (fun KX hK => ?_)
          have HKX := TW.hide hK
          clear hK
          refine wp_store_row 26 _ _ (by rfl) B (pcP st.q (.slice b1 (tr st.s).length d1) (.slice b2 (tr st.t).length d2)) (by rfl) (by rfl) 26 _ yb (info31 _ _ _) (pc_size Pm.zero _ _ _ _ _) (pc_one _ _ _ _ _ _ _) ?_
          simp only [Act.put, List.setIfInBounds_toArray, List.set_cons_zero, List.set_cons_succ, List.getElem_toArray, List.getElem_cons_zero, List.getElem_cons_succ]
          refine HKX.out _ _ rq.out (fun _ => trivial) ?_
          clear HKX KX HTo yb PY1 PY2 BY
          generalize Y.setRow B (pcP st.q (.slice b1 (tr st.s).length d1) (.slice b2 (tr st.t).length d2)) = V at *
          refine RG.wpL_take (fuel := 0) (a' := ?Bo) [4, 5] (by kernel_rfl) (by kernel_rfl) (fun _ _ _ _ _ h => h) rq.out (fun _ => trivial) ?so ?_
          case so =>
            refine RG.RunsIf.weak (v := ?_) (by rfl) (by rfl) (fun Z hT => ?_) ?_
            rotate_left
            · go_simp
              rfl
            simp only [Act.put, List.setIfInBounds_toArray, List.set_cons_zero, List.set_cons_succ, List.getElem_toArray, List.getElem_cons_zero, List.getElem_cons_succ]
            refine RG.RunsIf.weak (v := ?_) (by rfl) (by rfl) (fun Z hT => ?_) ?_
            rotate_left
            · go_simp
              rfl
            simp only [Act.put, List.setIfInBounds_toArray, List.set_cons_zero, List.set_cons_succ, List.getElem_toArray, List.getElem_cons_zero, List.getElem_cons_succ]
            exact RG.RunsIf.nil
          refine RG.wpL_done (by kernel_rfl) ?_ _
          refine NoPanic.normal ?_
          refine HK.out _ _ ?_
          clear HK KK
          go_wp2
          refine bodyPost_ret (v := .tuple #[.int .i64 kd, .agg (pcP st.q (.slice b1 (tr st.s).length d1) (.slice b2 (tr st.t).length d2)), .int .i64 0, .int .i64 0]) (results_rread _ _ B kd 0 0 (pcP st.q (.slice b1 (tr st.s).length d1) (.slice b2 (tr st.t).length d2)) rfl rfl rfl rfl r1 (info31 _ _ _)) rfl ?_
          rw [HFG.out]
          refine ⟨?_, b1, d1, b2, d2, rfl, PZ1.out.toPb, PZ2.out.toPb⟩
          rw [hB]
          exact BZ.out
        · have HF := HFF.out
          rw [if_neg hE] at HF
          obtain ⟨i, hi, hi4, hEi⟩ := ck_of hk st.q _ _ hE
          obtain ⟨hbl1, hbl2⟩ := blame st.ats i hi hi4
          rw [hEi] at hbl1 hbl2
          rw [hbl1] at HF
          have HFG := TW.hide HF
          have hE' : (st.q.ck kd st.s.length st.t.length != 0) = true := bne0 hE
          have HBD := TW.hide (rblamed (st.q.ck kd st.s.length st.t.length))
          rw [hbl2] at HBD
          simp only [nP, nS, if_neg hE] at ox oy ⊢
          obtain ⟨b1, d1, rfl, _⟩ := Pa.own (s := []) ox (by simp) Byt.nil
          obtain ⟨b2, d2, rfl, _⟩ := Pa.own (s := []) oy (by simp) Byt.nil
          clear ox oy hE HF HFF hEi hbl1 hbl2
          generalize st.q.ck kd st.s.length st.t.length = EE at *
          go_wp2_with (first | (refine wpList_store_row (by rfl) 26 _ _ (by rfl) (w2.heap.size) (pcP Pm.zero (.slice b1 0 d1) (.slice b2 0 d2)) (by rfl) (by rfl) 26 _ (heap_new w2 _) (info31 _ _ _) (pc_size Pm.zero _ _ _ _ _) (pc_one _ _ _ _ _ _ _) ?_))
          have nq := setRow_heap _ _ _ (pcP Pm.zero (.slice b1 0 d1) (.slice b2 0 d2)) _ _ (heap_new w2 (.cells #[.int .i64 0, .int .i64 0, .int .i64 0, .int .i64 0, .int .u32 0, .int .u64 0, .int .u32 0, .int .i64 0, .int .i64 0, .slice none 0 0, .slice none 0 0] 26))
          have bx := below_setRow (cs := (pcP Pm.zero (.slice b1 0 d1) (.slice b2 0 d2))) ((Below.refl w2.heap.size w2).alloc (Nat.le_refl _) (.cells #[.int .i64 0, .int .i64 0, .int .i64 0, .int .i64 0, .int .u32 0, .int .u64 0, .int .u32 0, .int .i64 0, .int .i64 0, .slice none 0 0, .slice none 0 0] 26)) (g := w2.heap.size) (Nat.le_refl _)
          generalize (w2.alloc (.cells #[.int .i64 0, .int .i64 0, .int .i64 0, .int .i64 0, .int .u32 0, .int .u64 0, .int .u32 0, .int .i64 0, .int .i64 0, .slice none 0 0, .slice none 0 0] 26)).setRow w2.heap.size (pcP Pm.zero (.slice b1 0 d1) (.slice b2 0 d2)) = X3 at nq bx ⊢

          have hBl := blk_lt HQ2.out.res
          have HT5 : Hid (TQ X3 w B) := ⟨blk_keep HQ2.out.res bx, blk_keep HQ2.out.non bx, below_row HQ2.out.bel bx (by omega)⟩
          have HG5 := TW.hide (blk_keep HQ2.out.ats bx)
          have hpg := HQ2.out.pg
          clear nq bx HQ2
          generalize w2.heap.size = qb at *
          refine HK.out _ _ ?_
          clear HK KK
          refine wp_seq_k fun KK hK => ?_
          have HK := TW.hide hK
          clear hK
          go_wp2_with fail
          have hvl : st.ats.length = 11 := hst.n
          have hAT : ((0 :: st.ats).map (Value.int .i64)).toArray[i + 1]? = some (.int .i64 (st.ats.getD i 0)) := by
            rw [List.getElem?_toArray, List.map_cons, List.getElem?_cons_succ, List.getElem?_map, List.getD_eq_getElem?_getD, List.getElem?_eq_getElem (by omega)]
            rfl
          rw [show (i : Int) + 1 = ((i + 1 : Nat) : Int) by omega] at HBD
          have HCE : Hid (∀ Z : World, Z.heap[g]? = some (.cells ((0 :: st.ats).map (Value.int .i64)).toArray 3 (0, 0)) → Z.cell? ⟨g, i + 1, none⟩ = some (.int .i64 (st.ats.getD i 0))) := fun Z hZ => blk_cell hZ hAT
          have hf12 : i + 1 < 12 := by omega
          clear hAT hvl hi hi4
          generalize st.ats.getD i 0 = val at *
          generalize hfd : i + 1 = f at *
          clear hfd
          have hfI : (f : Int) < 12 := by omega
          generalize hATT : ((0 :: st.ats).map (Value.int .i64)).toArray = AT at *
          clear hATT
          refine wp_region_noPanic ?_
          refine RG.wp_region_L (fun Z => True) (fun Z => TQ Z w B ∧ Z.heap[g]? = some (.cells AT 3 (0, 0))) [] (by kernel_rfl) ?_
          refine RG.wpL_any fun Y hY => ?_
          have HTe : Hid (TQ Y w B ∧ Y.heap[g]? = some (.cells AT 3 (0, 0))) := by rw [hY]; exact ⟨HT5.out.drew, HG5.out⟩
          clear hY HT5 HG5
          refine RG.wpL_take (fuel := 7) (a' := ?Ae) [0, 1, 2, 6] (by kernel_rfl) (by kernel_rfl) (fun _ _ _ _ _ h => h) HTe.out (fun _ => trivial) ?re ?_
          case re =>
            refine RG.RunsIf.weak (v := .agg #[.int .i64 0, .int .i64 0, .int .i64 0, .int .i64 0, .int .u32 0, .int .u64 0, .int .u32 0, .int .i64 0, .int .i64 0, .slice none 0 0, .slice none 0 0]) (by rfl) (by rfl) (fun Z hT => exec_load_row' 26 _ (by rfl) (B + 1) (by rfl) 26 #[.int .i64 0, .int .i64 0, .int .i64 0, .int .i64 0, .int .u32 0, .int .u64 0, .int .u32 0, .int .i64 0, .int .i64 0, .slice none 0 0, .slice none 0 0] (0, 0) _ hT.1.non Tryd.underlying26 rfl (by kernel_rfl)) ?_
            simp only [Act.put, List.setIfInBounds_toArray, List.set_cons_zero, List.set_cons_succ, List.getElem_toArray, List.getElem_cons_zero, List.getElem_cons_succ]
            refine RG.RunsIf.weak (v := ?_) (by rfl) (by rfl) (fun Z hT => ?_) ?_
            rotate_left
            · go_simp
              rfl
            simp only [Act.put, List.setIfInBounds_toArray, List.set_cons_zero, List.set_cons_succ, List.getElem_toArray, List.getElem_cons_zero, List.getElem_cons_succ]
            refine RG.RunsIf.weak (v := ?_) (by rfl) (by rfl) (fun Z hT => ?_) ?_
            rotate_left
            · go_simp
              rfl
            simp only [Act.put, List.setIfInBounds_toArray, List.set_cons_zero, List.set_cons_succ, List.getElem_toArray, List.getElem_cons_zero, List.getElem_cons_succ]
            refine RG.RunsIf.weak (v := ?_) (by rfl) (by rfl) (fun Z hT => ?_) ?_
            rotate_left
            · go_simp
              rfl
            simp only [Act.put, List.setIfInBounds_toArray, List.set_cons_zero, List.set_cons_succ, List.getElem_toArray, List.getElem_cons_zero, List.getElem_cons_succ]
            exact RG.RunsIf.nil
          refine RG.wpL_step (i := 3) (by kernel_rfl) (by rfl) (by rfl) (fun KX hK => ?_)
          have HKX := TW.hide hK
          clear hK
          go_simp
          refine (HBD.out _).mono ?_
          rintro e w9 ⟨rfl, rfl⟩
          refine HKX.out _ _ HTe.out (fun _ => trivial) ?_
          clear HKX KX
          try simp only [Act.put, List.setIfInBounds_toArray, List.set_cons_zero, List.set_cons_succ, List.getElem_toArray, List.getElem_cons_zero, List.getElem_cons_succ]
          refine RG.wpL_take (fuel := 3) (a' := ?Ce) [4, 5, 7] (by kernel_rfl) (by kernel_rfl) (fun _ _ _ _ _ h => h) HTe.out (fun _ => trivial) ?te ?_
          case te =>
            refine RG.RunsIf.weak (v := ?_) (by rfl) (by rfl) (fun Z hT => ?_) ?_
            rotate_left
            · go_simp
              rfl
            simp only [Act.put, List.setIfInBounds_toArray, List.set_cons_zero, List.set_cons_succ, List.getElem_toArray, List.getElem_cons_zero, List.getElem_cons_succ]
            refine RG.RunsIf.weak (v := .int .i64 val) (by rfl) (by rfl) (fun Z hT => ?_) ?_
            · have cz := HCE.out Z hT.2
              go_simp
            simp only [Act.put, List.setIfInBounds_toArray, List.set_cons_zero, List.set_cons_succ, List.getElem_toArray, List.getElem_cons_zero, List.getElem_cons_succ]
            refine RG.RunsIf.weak (v := ?_) (by rfl) (by rfl) (fun Z hT => ?_) ?_
            rotate_left
            · go_simp
              rfl
            simp only [Act.put, List.setIfInBounds_toArray, List.set_cons_zero, List.set_cons_succ, List.getElem_toArray, List.getElem_cons_zero, List.getElem_cons_succ]
            exact RG.RunsIf.nil
          have HUe : Hid (TQ (Y.setRow B #[.int .i64 0, .int .i64 0, .int .i64 0, .int .i64 0, .int .u32 0, .int .u64 0, .int .u32 0, .int .i64 0, .int .i64 0, .slice none 0 0, .slice none 0 0]) w B ∧ (Y.setRow B #[.int .i64 0, .int .i64 0, .int .i64 0, .int .i64 0, .int .u32 0, .int .u64 0, .int .u32 0, .int .i64 0, .int .i64 0, .slice none 0 0, .slice none 0 0]).heap[g]? = some (.cells AT 3 (0, 0))) := ⟨HTe.out.1.setRow, (setRow_other _ _ _ _ (by omega)).trans HTe.out.2⟩
          refine RG.wpL_step (i := 8) (by kernel_rfl) (by rfl) (by rfl) (fun KX hK => ?_)
          have HKX := TW.hide hK
          clear hK
          refine wp_store_row 26 _ _ (by rfl) B #[.int .i64 0, .int .i64 0, .int .i64 0, .int .i64 0, .int .u32 0, .int .u64 0, .int .u32 0, .int .i64 0, .int .i64 0, .slice none 0 0, .slice none 0 0] (by rfl) (by rfl) 26 _ HTe.out.1.res (by kernel_rfl) (by rfl) (by kernel_rfl) ?_
          simp only [Act.put, List.setIfInBounds_toArray, List.set_cons_zero, List.set_cons_succ, List.getElem_toArray, List.getElem_cons_zero, List.getElem_cons_succ]
          refine HKX.out _ _ HUe.out (fun _ => trivial) ?_
          clear HKX KX HTe
          generalize Y.setRow B #[.int .i64 0, .int .i64 0, .int .i64 0, .int .i64 0, .int .u32 0, .int .u64 0, .int .u32 0, .int .i64 0, .int .i64 0, .slice none 0 0, .slice none 0 0] = V at *
          refine RG.wpL_take (fuel := 0) (a' := ?Be) [9, 10] (by kernel_rfl) (by kernel_rfl) (fun _ _ _ _ _ h => h) HUe.out (fun _ => trivial) ?se ?_
          case se =>
            refine RG.RunsIf.weak (v := ?_) (by rfl) (by rfl) (fun Z hT => ?_) ?_
            rotate_left
            · go_simp
              rfl
            simp only [Act.put, List.setIfInBounds_toArray, List.set_cons_zero, List.set_cons_succ, List.getElem_toArray, List.getElem_cons_zero, List.getElem_cons_succ]
            refine RG.RunsIf.weak (v := ?_) (by rfl) (by rfl) (fun Z hT => ?_) ?_
            rotate_left
            · go_simp
              rfl
            simp only [Act.put, List.setIfInBounds_toArray, List.set_cons_zero, List.set_cons_succ, List.getElem_toArray, List.getElem_cons_zero, List.getElem_cons_succ]
            exact RG.RunsIf.nil
          refine RG.wpL_done (by kernel_rfl) ?_ _
          refine NoPanic.normal ?_
          go_wp2
          refine bodyPost_ret (v := .tuple #[.int .i64 0, .agg #[.int .i64 0, .int .i64 0, .int .i64 0, .int .i64 0, .int .u32 0, .int .u64 0, .int .u32 0, .int .i64 0, .int .i64 0, .slice none 0 0, .slice none 0 0], .int .i64 val, .int .i64 EE]) (results_rread _ _ B 0 val EE #[.int .i64 0, .int .i64 0, .int .i64 0, .int .i64 0, .int .u32 0, .int .u64 0, .int .u32 0, .int .i64 0, .int .i64 0, .slice none 0 0, .slice none 0 0] rfl rfl rfl rfl HUe.out.1.res (by kernel_rfl)) rfl ?_
          rw [HFG.out]
          refine ⟨?_, rfl⟩
          rw [hB]
          exact HUe.out.1.bel
      | cons v rest =>
        have hbv : Byt v := hbr v (by simp)
        have hsv : ∀ z ∈ v, z ≠ 32 := hsr v (by simp)
        have hsp2 : knL kd ++ joinI ws = (pre ++ [32]) ++ (v ++ joinI rest) := by rw [hsp]; simp [joinI]
        have hlen := hl
        rw [hsp2] at hlen
        have hvl : v.length ≤ 512 := by simp at hlen; omega
        have hcl : ((pre.length : Nat) : Int) < (line.size : Int) := by rw [← hline, strOf_size, hsp2]; simp; omega
        have hpl : pre.length ≤ 512 := by simp at hlen; omega
        have HWD : Hid (∀ W, Calls Tryd.prog 32 #[.string line, .int .i64 ((pre.length : Int) + 1)] W fun e w' => e = .returned (.string (strOfNums v)) ∧ W = w') := fun W => by
          have := rword (pre ++ [32]) v (joinI rest) (by rw [← hsp2]; exact hbt) hsv (by cases rest with
            | nil => exact .inl rfl
            | cons v ws => exact .inr ⟨_, rfl⟩) hlen W
          rw [← hsp2, hline] at this
          simpa using this
        have HNX : Hid (∀ st', stepR st v ((pre.length : Int) + 1) = some st' → runR (initR kd) ws 3 = runR st' rest ((pre.length : Int) + 1 + ((v.length : Int) + 1))) := fun st' h => by
          rw [hrun, runR, h]
        have HNO : Hid (stepR st v ((pre.length : Int) + 1) = none → rdF (knL kd) ws = .inr ((pre.length : Int) + 1, 4)) := fun h => by
          rw [rdF_kn hk, rdK, hrun, runR, h]
        have HGD : Hid (∀ st', stepR st v ((pre.length : Int) + 1) = some st' → st'.Good) := fun st' h => stepR_good hst hbv hvl h
        have HRE : Hid ((∀ u ∈ rest, Byt u) ∧ (∀ u ∈ rest, ∀ z ∈ u, z ≠ 32) ∧ knL kd ++ joinI ws = (pre ++ ([32] ++ v)) ++ joinI rest) := ⟨fun u hu => hbr u (by simp [hu]), fun u hu => hsr u (by simp [hu]), by rw [hsp2]; simp⟩
        have hat : IntKind.i64.wrap ((pre.length : Int) + 1) = (pre.length : Int) + 1 := by rw [IntKind.wrap_i64]; omega
        obtain ⟨F, R, hbR, hlR, HFD, hFR⟩ : ∃ (F : Nat) (R : List Int), Byt R ∧ R.length ≤ 512 ∧ Hid (∀ W, Calls Tryd.prog 34 #[.string (strOfNums v), .int .i64 st.r] W fun e w' => e = .returned (.tuple #[.int .i64 F, .string (strOfNums R)]) ∧ Below W.heap.size W w') ∧ ((F = 0 ∧ fldN v (11 - st.r) = none) ∨ ∃ k : Nat, k < 11 ∧ F = k + 1 ∧ fldN v (11 - st.r) = some (k, R)) := by
          cases hfd : fldN v (11 - st.r) with
          | none =>
            refine ⟨0, [], Byt.nil, by simp, fun W => ?_, .inl ⟨rfl, rfl⟩⟩
            have := rfield v hbv hvl st.r hst.r W
            rw [hfd] at this
            exact this
          | some kv =>
            obtain ⟨k, R⟩ := kv
            obtain ⟨k1, k2, j, rfl⟩ := fldN_bd v (11 - st.r) (by omega) hfd
            refine ⟨k + 1, v.drop j, fun z hz => hbv z (List.mem_of_mem_drop hz), by simp; omega, fun W => ?_, .inr ⟨k, k2, rfl, rfl⟩⟩
            have := rfield v hbv hvl st.r hst.r W
            rw [hfd] at this
            exact this
        obtain ⟨U, NB, HNU, hNU⟩ : ∃ (U : Nat) (NB : Bool), Hid (∀ W, Calls Tryd.prog 35 #[.string (strOfNums R)] W fun e w' => e = .returned (.tuple #[.int .u64 U, .bool NB]) ∧ W = w') ∧ ((NB = false ∧ numV R = none) ∨ (NB = true ∧ U < 18446744073709551616 ∧ numV R = some U)) := by
          cases hn : numV R with
          | none =>
            refine ⟨0, false, fun W => ?_, .inl ⟨rfl, rfl⟩⟩
            have := rnumber R hbR hlR W
            rw [hn] at this
            exact this
          | some u =>
            refine ⟨u, true, fun W => ?_, .inr ⟨rfl, (numV_some hn).2, rfl⟩⟩
            have := rnumber R hbR hlR W
            rw [hn] at this
            exact this
        have HPR : Hid (∀ W, Calls Tryd.prog 36 #[.string (strOfNums R)] W fun e w' => ∃ x n c PB, e = .returned (.tuple #[.slice x n c, .bool PB]) ∧ Below W.heap.size W w' ∧ ((PB = false ∧ bytV R = none) ∨ (PB = true ∧ ∃ b, bytV R = some b ∧ n = b.length ∧ Pn w' W.heap.size x c b))) := fun W => by
          refine (rpairs R hbR hlR W).mono ?_
          intro e w' hpp
          unfold PairPost at hpp
          cases hb : bytV R with
          | none =>
            rw [hb] at hpp
            exact ⟨none, 0, 0, false, hpp.2, hpp.1, .inl ⟨rfl, rfl⟩⟩
          | some b =>
            rw [hb] at hpp
            obtain ⟨h1, vv, h2, h3⟩ := hpp
            obtain ⟨er, hbyt⟩ := bytV_some hbR hb
            obtain ⟨x, c, rfl, hp⟩ := Pn.own h3 (by have : b.length ≤ 512 := by (have := hlR; rw [er, hx_length] at this; omega)
                                                    omega) hbyt
            exact ⟨x, b.length, c, true, h2, h1, .inr ⟨rfl, b, rfl, rfl, hp⟩⟩
        have HQ := TW.hide hLq
        have hvs := strOf_size v
        have hvn : pre.length + 1 + v.length ≤ 512 := by simp at hlen; omega
        have HPL : Hid ((pre ++ ([32] ++ v)).length = pre.length + (1 + v.length)) := by show _ = _; simp; omega
        clear hLq hsp hsp2 hbr hsr hrun hlen hsv hbv hvl
        generalize hn0 : pre.length = n at *
        go_wp2_with fail
        refine (HWD.out _).mono ?_
        rintro e w2 ⟨rfl, rfl⟩
        go_wp2_with fail
        refine (HFD.out _).mono ?_
        rintro e w3 ⟨rfl, hb3⟩
        have HQ3 := TW.hide (HQ.out.below hb3)
        clear hb3 HQ
        go_wp2_with fail
        refine (HNU.out _).mono ?_
        rintro e w4 ⟨rfl, rfl⟩
        go_wp2_with fail
        refine (HPR.out _).mono ?_
        rintro e w4 ⟨x, nn, c, PB, rfl, hb4, hPB⟩
        have HQ4 := TW.hide (HQ3.out.below hb4)
        have hw3g : g < w3.heap.size := blk_lt HQ3.out.ats
        clear hb4 HQ3
        have HT : Hid (TQ w4 w B) := ⟨HQ4.out.res, HQ4.out.non, HQ4.out.bel⟩
        rcases hFR with ⟨rfl, hfn⟩ | ⟨k, hk11, hFk, hfs⟩
        · have HF := TW.hide (HNO.out (by unfold stepR; rw [hfn]))
          clear hPB hNU
          go_wp2_with fail
          refine wp_region_noPanic ?_
          refine RG.wp_region_L (fun Z => True) (fun Z => TQ Z w B) [] (by kernel_rfl) ?_
          refine RG.wpL_any fun Yc hY => ?_
          have HTc : Hid (TQ Yc w B) := by rw [hY]; exact HT.out.drew
          clear hY
          refine RG.wpL_take (fuel := 3) (a' := ?Ac) [0, 1, 2] (by kernel_rfl) (by kernel_rfl) (fun _ _ _ _ _ h => h) HTc.out (fun _ => trivial) ?rc ?_
          case rc =>
            refine RG.RunsIf.weak (v := .agg #[.int .i64 0, .int .i64 0, .int .i64 0, .int .i64 0, .int .u32 0, .int .u64 0, .int .u32 0, .int .i64 0, .int .i64 0, .slice none 0 0, .slice none 0 0]) (by rfl) (by rfl) (fun Z hT => exec_load_row' 26 _ (by rfl) (B + 1) (by rfl) 26 #[.int .i64 0, .int .i64 0, .int .i64 0, .int .i64 0, .int .u32 0, .int .u64 0, .int .u32 0, .int .i64 0, .int .i64 0, .slice none 0 0, .slice none 0 0] (0, 0) _ hT.non Tryd.underlying26 rfl (by kernel_rfl)) ?_
            simp only [Act.put, List.setIfInBounds_toArray, List.set_cons_zero, List.set_cons_succ, List.getElem_toArray, List.getElem_cons_zero, List.getElem_cons_succ]
            refine RG.RunsIf.weak (v := ?_) (by rfl) (by rfl) (fun Z hT => ?_) ?_
            rotate_left
            · go_simp
              rfl
            simp only [Act.put, List.setIfInBounds_toArray, List.set_cons_zero, List.set_cons_succ, List.getElem_toArray, List.getElem_cons_zero, List.getElem_cons_succ]
            refine RG.RunsIf.weak (v := ?_) (by rfl) (by rfl) (fun Z hT => ?_) ?_
            rotate_left
            · go_simp
              rfl
            simp only [Act.put, List.setIfInBounds_toArray, List.set_cons_zero, List.set_cons_succ, List.getElem_toArray, List.getElem_cons_zero, List.getElem_cons_succ]
            exact RG.RunsIf.nil
          have HUc : Hid (TQ (Yc.setRow B #[.int .i64 0, .int .i64 0, .int .i64 0, .int .i64 0, .int .u32 0, .int .u64 0, .int .u32 0, .int .i64 0, .int .i64 0, .slice none 0 0, .slice none 0 0]) w B) := HTc.out.setRow
          refine RG.wpL_step (i := 3) (by kernel_rfl) (by rfl) (by rfl) (fun KX hK => ?_)
          have HKX := TW.hide hK
          clear hK
          refine wp_store_row 26 _ _ (by rfl) B #[.int .i64 0, .int .i64 0, .int .i64 0, .int .i64 0, .int .u32 0, .int .u64 0, .int .u32 0, .int .i64 0, .int .i64 0, .slice none 0 0, .slice none 0 0] (by rfl) (by rfl) 26 _ HTc.out.res (by kernel_rfl) (by rfl) (by kernel_rfl) ?_
          simp only [Act.put, List.setIfInBounds_toArray, List.set_cons_zero, List.set_cons_succ, List.getElem_toArray, List.getElem_cons_zero, List.getElem_cons_succ]
          refine HKX.out _ _ HUc.out (fun _ => trivial) ?_
          clear HKX KX HTc
          generalize Yc.setRow B #[.int .i64 0, .int .i64 0, .int .i64 0, .int .i64 0, .int .u32 0, .int .u64 0, .int .u32 0, .int .i64 0, .int .i64 0, .slice none 0 0, .slice none 0 0] = Vc at *
          refine RG.wpL_take (fuel := 0) (a' := ?Bc) [4, 5] (by kernel_rfl) (by kernel_rfl) (fun _ _ _ _ _ h => h) HUc.out (fun _ => trivial) ?sc ?_
          case sc =>
            refine RG.RunsIf.weak (v := ?_) (by rfl) (by rfl) (fun Z hT => ?_) ?_
            rotate_left
            · go_simp
              rfl
            simp only [Act.put, List.setIfInBounds_toArray, List.set_cons_zero, List.set_cons_succ, List.getElem_toArray, List.getElem_cons_zero, List.getElem_cons_succ]
            refine RG.RunsIf.weak (v := ?_) (by rfl) (by rfl) (fun Z hT => ?_) ?_
            rotate_left
            · go_simp
              rfl
            simp only [Act.put, List.setIfInBounds_toArray, List.set_cons_zero, List.set_cons_succ, List.getElem_toArray, List.getElem_cons_zero, List.getElem_cons_succ]
            exact RG.RunsIf.nil
          refine RG.wpL_done (by kernel_rfl) ?_ _
          refine NoPanic.normal ?_
          go_wp2
          refine bodyPost_ret (v := .tuple #[.int .i64 0, .agg #[.int .i64 0, .int .i64 0, .int .i64 0, .int .i64 0, .int .u32 0, .int .u64 0, .int .u32 0, .int .i64 0, .int .i64 0, .slice none 0 0, .slice none 0 0], .int .i64 ((n : Int) + 1), .int .i64 4]) (results_rread _ _ B 0 ((n : Int) + 1) 4 #[.int .i64 0, .int .i64 0, .int .i64 0, .int .i64 0, .int .u32 0, .int .u64 0, .int .u32 0, .int .i64 0, .int .i64 0, .slice none 0 0, .slice none 0 0] rfl rfl rfl rfl HUc.out.res (by kernel_rfl)) rfl ?_
          rw [HF.out]
          refine ⟨?_, rfl⟩
          rw [hB]
          exact HUc.out.bel

        have eF0 : ((F : Int) == 0) = false := by simp; omega
        have hF0 : (0 : Int) ≤ (F : Int) := by omega
        have hF12 : (F : Int) < 12 := by omega
        have hF12' : F < 12 := by omega
        by_cases h9 : F < 10
        · have hlt : (F : Int) < 10 := by omega
          have hge : ¬ (10 : Int) ≤ (F : Int) := by omega
          clear hPB
          rcases hNU with ⟨rfl, hno⟩ | ⟨rfl, hU, hso⟩
          · have HF := TW.hide (HNO.out (by unfold stepR; rw [hfs]; simp only; rw [if_pos (by omega), hno]))
            clear hFk hfs
            go_wp2_with fail
            refine wp_region_noPanic ?_
            refine RG.wp_region_L (fun Z => True) (fun Z => TQ Z w B) [] (by kernel_rfl) ?_
            refine RG.wpL_any fun Yd hY => ?_
            have HTd : Hid (TQ Yd w B) := by rw [hY]; exact HT.out.drew
            clear hY
            refine RG.wpL_take (fuel := 3) (a' := ?Ad) [0, 1, 2] (by kernel_rfl) (by kernel_rfl) (fun _ _ _ _ _ h => h) HTd.out (fun _ => trivial) ?rd ?_
            case rd =>
              refine RG.RunsIf.weak (v := .agg #[.int .i64 0, .int .i64 0, .int .i64 0, .int .i64 0, .int .u32 0, .int .u64 0, .int .u32 0, .int .i64 0, .int .i64 0, .slice none 0 0, .slice none 0 0]) (by rfl) (by rfl) (fun Z hT => exec_load_row' 26 _ (by rfl) (B + 1) (by rfl) 26 #[.int .i64 0, .int .i64 0, .int .i64 0, .int .i64 0, .int .u32 0, .int .u64 0, .int .u32 0, .int .i64 0, .int .i64 0, .slice none 0 0, .slice none 0 0] (0, 0) _ hT.non Tryd.underlying26 rfl (by kernel_rfl)) ?_
              simp only [Act.put, List.setIfInBounds_toArray, List.set_cons_zero, List.set_cons_succ, List.getElem_toArray, List.getElem_cons_zero, List.getElem_cons_succ]
              refine RG.RunsIf.weak (v := ?_) (by rfl) (by rfl) (fun Z hT => ?_) ?_
              rotate_left
              · go_simp
                rfl
              simp only [Act.put, List.setIfInBounds_toArray, List.set_cons_zero, List.set_cons_succ, List.getElem_toArray, List.getElem_cons_zero, List.getElem_cons_succ]
              refine RG.RunsIf.weak (v := ?_) (by rfl) (by rfl) (fun Z hT => ?_) ?_
              rotate_left
              · go_simp
                rfl
              simp only [Act.put, List.setIfInBounds_toArray, List.set_cons_zero, List.set_cons_succ, List.getElem_toArray, List.getElem_cons_zero, List.getElem_cons_succ]
              exact RG.RunsIf.nil
            have HUd : Hid (TQ (Yd.setRow B #[.int .i64 0, .int .i64 0, .int .i64 0, .int .i64 0, .int .u32 0, .int .u64 0, .int .u32 0, .int .i64 0, .int .i64 0, .slice none 0 0, .slice none 0 0]) w B) := HTd.out.setRow
            refine RG.wpL_step (i := 3) (by kernel_rfl) (by rfl) (by rfl) (fun KX hK => ?_)
            have HKX := TW.hide hK
            clear hK
            refine wp_store_row 26 _ _ (by rfl) B #[.int .i64 0, .int .i64 0, .int .i64 0, .int .i64 0, .int .u32 0, .int .u64 0, .int .u32 0, .int .i64 0, .int .i64 0, .slice none 0 0, .slice none 0 0] (by rfl) (by rfl) 26 _ HTd.out.res (by kernel_rfl) (by rfl) (by kernel_rfl) ?_
            simp only [Act.put, List.setIfInBounds_toArray, List.set_cons_zero, List.set_cons_succ, List.getElem_toArray, List.getElem_cons_zero, List.getElem_cons_succ]
            refine HKX.out _ _ HUd.out (fun _ => trivial) ?_
            clear HKX KX HTd
            generalize Yd.setRow B #[.int .i64 0, .int .i64 0, .int .i64 0, .int .i64 0, .int .u32 0, .int .u64 0, .int .u32 0, .int .i64 0, .int .i64 0, .slice none 0 0, .slice none 0 0] = Vd at *
            refine RG.wpL_take (fuel := 0) (a' := ?Bd) [4, 5] (by kernel_rfl) (by kernel_rfl) (fun _ _ _ _ _ h => h) HUd.out (fun _ => trivial) ?sd ?_
            case sd =>
              refine RG.RunsIf.weak (v := ?_) (by rfl) (by rfl) (fun Z hT => ?_) ?_
              rotate_left
              · go_simp
                rfl
              simp only [Act.put, List.setIfInBounds_toArray, List.set_cons_zero, List.set_cons_succ, List.getElem_toArray, List.getElem_cons_zero, List.getElem_cons_succ]
              refine RG.RunsIf.weak (v := ?_) (by rfl) (by rfl) (fun Z hT => ?_) ?_
              rotate_left
              · go_simp
                rfl
              simp only [Act.put, List.setIfInBounds_toArray, List.set_cons_zero, List.set_cons_succ, List.getElem_toArray, List.getElem_cons_zero, List.getElem_cons_succ]
              exact RG.RunsIf.nil
            refine RG.wpL_done (by kernel_rfl) ?_ _
            refine NoPanic.normal ?_
            go_wp2
            refine bodyPost_ret (v := .tuple #[.int .i64 0, .agg #[.int .i64 0, .int .i64 0, .int .i64 0, .int .i64 0, .int .u32 0, .int .u64 0, .int .u32 0, .int .i64 0, .int .i64 0, .slice none 0 0, .slice none 0 0], .int .i64 ((n : Int) + 1), .int .i64 4]) (results_rread _ _ B 0 ((n : Int) + 1) 4 #[.int .i64 0, .int .i64 0, .int .i64 0, .int .i64 0, .int .u32 0, .int .u64 0, .int .u32 0, .int .i64 0, .int .i64 0, .slice none 0 0, .slice none 0 0] rfl rfl rfl rfl HUd.out.res (by kernel_rfl)) rfl ?_
            rw [HF.out]
            refine ⟨?_, rfl⟩
            rw [hB]
            exact HUd.out.bel

          have HSS : Hid (stepR st v ((n : Int) + 1) = some ⟨setQ st.q (F : Int) U, st.s, st.t, F, st.ats.set k ((n : Int) + 1), if wideB (F : Int) U st.ww = true then (n : Int) + 1 else st.wa, if wideB (F : Int) U st.ww = true then erOf (F : Int) else st.ww⟩) := by
            show _ = _
            unfold stepR
            rw [hfs]
            simp only
            rw [if_pos (by omega), hso, hFk]
            simp
          have HQ5 := TW.hide (HQ4.out.at_ k F hFk hk11 hst.n ((n : Int) + 1))
          have cF : w4.cell? ⟨g, F, none⟩ = some (.int .i64 ((0 :: st.ats).getD F 0)) := blk_cell HQ4.out.ats (by
            rw [List.getElem?_toArray, List.getElem?_map, List.getD_eq_getElem?_getD, List.getElem?_eq_getElem (by simp [hst.n]; omega)]; rfl)
          have fF : w4.frozen? ⟨g, F, none⟩ = false := by simp [World.frozen?, HQ4.out.ats]
          have e10 : ((F : Int) == 10) = false := by simp; omega
          have e11 : ((F : Int) == 11) = false := by simp; omega
          have hF1 : (1 : Int) ≤ (F : Int) := by omega
          have hF9 : (F : Int) ≤ 9 := by omega
          clear hfs hso HQ4 HT HNO hFk
          go_wp2_with (refine wpList_val (.agg (pcP st.q (.slice a1 st.s.length c1) (.slice a2 st.t.length c2))) (by rfl) (exec_load_row' 26 _ (by rfl) (p) (by rfl) 26 (pcP st.q (.slice a1 st.s.length c1) (.slice a2 st.t.length c2)) (0, 0) _ HQ5.out.par Tryd.underlying26 rfl (info31 _ _ _)) ?_; simp only [Act.put, List.setIfInBounds_toArray, List.set_cons_zero, List.set_cons_succ, List.getElem_toArray, List.getElem_cons_zero, List.getElem_cons_succ])
          refine (rsetP st.q (F : Int) hF1 hF9 a1 a2 _ c1 _ c2 U hU _).mono ?_
          rintro e w6 ⟨rfl, hb6⟩
          have HQ6 := TW.hide (HQ5.out.below hb6)
          have HQ7 := TW.hide (HQ6.out.num (setQ st.q (F : Int) U))
          clear hb6 HQ5 cF fF
          by_cases h5 : F = 5
          · have e5 : ((F : Int) == 5) = true := by simp; omega
            have e7 : ((F : Int) == 7) = false := by simp; omega
            by_cases hg : (4294967295 : Int) < (U : Int)
            · by_cases hz : st.ww = 0
              · have ez : (st.ww == 0) = true := by simp [hz]
                have HWI : Hid (wideB (F : Int) U st.ww = true) := by
                  show _ = _
                  simp [wideB]; omega
                have HEE : Hid (erOf (F : Int) = 1) := by show _ = _; rw [show (F : Int) = 5 by omega]; rfl
                have HSX := HSS.out
                rw [HWI.out] at HSX
                simp only [if_true, Bool.false_eq_true, if_false] at HSX
                rw [HEE.out] at HSX
                have HS2 := TW.hide HSX
                clear HSX HSS HWI h5 hz
                go_wp2_with (refine wpList_store_row (by rfl) 26 _ _ (by rfl) p (pcP (setQ st.q (F : Int) U) (.slice a1 st.s.length c1) (.slice a2 st.t.length c2)) (by rfl) (by rfl) 26 _ HQ6.out.par (info31 _ _ _) (pc_size Pm.zero _ _ _ _ _) (pc_one _ _ _ _ _ _ _) ?_; generalize w6.setRow p (pcP (setQ st.q (F : Int) U) (.slice a1 st.s.length c1) (.slice a2 st.t.length c2)) = X7 at *; simp only [Act.put, List.setIfInBounds_toArray, List.set_cons_zero, List.set_cons_succ, List.getElem_toArray, List.getElem_cons_zero, List.getElem_cons_succ])
                go_roundw
                case rel => exact ⟨⟨setQ st.q (F : Int) U, st.s, st.t, F, st.ats.set k ((n : Int) + 1), (n : Int) + 1, 1⟩, rest, pre ++ ([32] ++ v), a1, a2, c1, c2, rfl, rfl, rfl, by rw [HPL.out]; go_num, HRE.out.2.2, HRE.out.1, HRE.out.2.1, by rw [HNX.out _ HS2.out, HPL.out]; congr 1; omega, HGD.out _ HS2.out, HQ7.out.as rfl rfl rfl rfl⟩
                case measure => simp [intOf]; omega
              · have ez : (st.ww == 0) = false := by simp [hz]
                have HWI : Hid (wideB (F : Int) U st.ww = false) := by
                  show _ = _
                  rw [Bool.eq_false_iff]; intro hh; simp [wideB] at hh; omega

                have HSX := HSS.out
                rw [HWI.out] at HSX
                simp only [if_true, Bool.false_eq_true, if_false] at HSX

                have HS2 := TW.hide HSX
                clear HSX HSS HWI h5
                go_wp2_with (refine wpList_store_row (by rfl) 26 _ _ (by rfl) p (pcP (setQ st.q (F : Int) U) (.slice a1 st.s.length c1) (.slice a2 st.t.length c2)) (by rfl) (by rfl) 26 _ HQ6.out.par (info31 _ _ _) (pc_size Pm.zero _ _ _ _ _) (pc_one _ _ _ _ _ _ _) ?_; generalize w6.setRow p (pcP (setQ st.q (F : Int) U) (.slice a1 st.s.length c1) (.slice a2 st.t.length c2)) = X7 at *; simp only [Act.put, List.setIfInBounds_toArray, List.set_cons_zero, List.set_cons_succ, List.getElem_toArray, List.getElem_cons_zero, List.getElem_cons_succ])
                go_roundw
                case rel => exact ⟨⟨setQ st.q (F : Int) U, st.s, st.t, F, st.ats.set k ((n : Int) + 1), st.wa, st.ww⟩, rest, pre ++ ([32] ++ v), a1, a2, c1, c2, rfl, rfl, rfl, by rw [HPL.out]; go_num, HRE.out.2.2, HRE.out.1, HRE.out.2.1, by rw [HNX.out _ HS2.out, HPL.out]; congr 1; omega, HGD.out _ HS2.out, HQ7.out.as rfl rfl rfl rfl⟩
                case measure => simp [intOf]; omega
            · skip
              have HWI : Hid (wideB (F : Int) U st.ww = false) := by
                show _ = _
                rw [Bool.eq_false_iff]; intro hh; simp [wideB] at hh; omega

              have HSX := HSS.out
              rw [HWI.out] at HSX
              simp only [if_true, Bool.false_eq_true, if_false] at HSX

              have HS2 := TW.hide HSX
              clear HSX HSS HWI h5
              go_wp2_with (refine wpList_store_row (by rfl) 26 _ _ (by rfl) p (pcP (setQ st.q (F : Int) U) (.slice a1 st.s.length c1) (.slice a2 st.t.length c2)) (by rfl) (by rfl) 26 _ HQ6.out.par (info31 _ _ _) (pc_size Pm.zero _ _ _ _ _) (pc_one _ _ _ _ _ _ _) ?_; generalize w6.setRow p (pcP (setQ st.q (F : Int) U) (.slice a1 st.s.length c1) (.slice a2 st.t.length c2)) = X7 at *; simp only [Act.put, List.setIfInBounds_toArray, List.set_cons_zero, List.set_cons_succ, List.getElem_toArray, List.getElem_cons_zero, List.getElem_cons_succ])
              go_roundw
              case rel => exact ⟨⟨setQ st.q (F : Int) U, st.s, st.t, F, st.ats.set k ((n : Int) + 1), st.wa, st.ww⟩, rest, pre ++ ([32] ++ v), a1, a2, c1, c2, rfl, rfl, rfl, by rw [HPL.out]; go_num, HRE.out.2.2, HRE.out.1, HRE.out.2.1, by rw [HNX.out _ HS2.out, HPL.out]; congr 1; omega, HGD.out _ HS2.out, HQ7.out.as rfl rfl rfl rfl⟩
              case measure => simp [intOf]; omega
          by_cases h7 : F = 7
          · have e5 : ((F : Int) == 5) = false := by simp; omega
            have e7 : ((F : Int) == 7) = true := by simp; omega
            by_cases hg : (4294967295 : Int) < (U : Int)
            · by_cases hz : st.ww = 0
              · have ez : (st.ww == 0) = true := by simp [hz]
                have HWI : Hid (wideB (F : Int) U st.ww = true) := by
                  show _ = _
                  simp [wideB]; omega
                have HEE : Hid (erOf (F : Int) = 24) := by show _ = _; rw [show (F : Int) = 7 by omega]; rfl
                have HSX := HSS.out
                rw [HWI.out] at HSX
                simp only [if_true, Bool.false_eq_true, if_false] at HSX
                rw [HEE.out] at HSX
                have HS2 := TW.hide HSX
                clear HSX HSS HWI h7 hz
                go_wp2_with (refine wpList_store_row (by rfl) 26 _ _ (by rfl) p (pcP (setQ st.q (F : Int) U) (.slice a1 st.s.length c1) (.slice a2 st.t.length c2)) (by rfl) (by rfl) 26 _ HQ6.out.par (info31 _ _ _) (pc_size Pm.zero _ _ _ _ _) (pc_one _ _ _ _ _ _ _) ?_; generalize w6.setRow p (pcP (setQ st.q (F : Int) U) (.slice a1 st.s.length c1) (.slice a2 st.t.length c2)) = X7 at *; simp only [Act.put, List.setIfInBounds_toArray, List.set_cons_zero, List.set_cons_succ, List.getElem_toArray, List.getElem_cons_zero, List.getElem_cons_succ])
                go_roundw
                case rel => exact ⟨⟨setQ st.q (F : Int) U, st.s, st.t, F, st.ats.set k ((n : Int) + 1), (n : Int) + 1, 24⟩, rest, pre ++ ([32] ++ v), a1, a2, c1, c2, rfl, rfl, rfl, by rw [HPL.out]; go_num, HRE.out.2.2, HRE.out.1, HRE.out.2.1, by rw [HNX.out _ HS2.out, HPL.out]; congr 1; omega, HGD.out _ HS2.out, HQ7.out.as rfl rfl rfl rfl⟩
                case measure => simp [intOf]; omega
              · have ez : (st.ww == 0) = false := by simp [hz]
                have HWI : Hid (wideB (F : Int) U st.ww = false) := by
                  show _ = _
                  rw [Bool.eq_false_iff]; intro hh; simp [wideB] at hh; omega

                have HSX := HSS.out
                rw [HWI.out] at HSX
                simp only [if_true, Bool.false_eq_true, if_false] at HSX

                have HS2 := TW.hide HSX
                clear HSX HSS HWI h7
                go_wp2_with (refine wpList_store_row (by rfl) 26 _ _ (by rfl) p (pcP (setQ st.q (F : Int) U) (.slice a1 st.s.length c1) (.slice a2 st.t.length c2)) (by rfl) (by rfl) 26 _ HQ6.out.par (info31 _ _ _) (pc_size Pm.zero _ _ _ _ _) (pc_one _ _ _ _ _ _ _) ?_; generalize w6.setRow p (pcP (setQ st.q (F : Int) U) (.slice a1 st.s.length c1) (.slice a2 st.t.length c2)) = X7 at *; simp only [Act.put, List.setIfInBounds_toArray, List.set_cons_zero, List.set_cons_succ, List.getElem_toArray, List.getElem_cons_zero, List.getElem_cons_succ])
                go_roundw
                case rel => exact ⟨⟨setQ st.q (F : Int) U, st.s, st.t, F, st.ats.set k ((n : Int) + 1), st.wa, st.ww⟩, rest, pre ++ ([32] ++ v), a1, a2, c1, c2, rfl, rfl, rfl, by rw [HPL.out]; go_num, HRE.out.2.2, HRE.out.1, HRE.out.2.1, by rw [HNX.out _ HS2.out, HPL.out]; congr 1; omega, HGD.out _ HS2.out, HQ7.out.as rfl rfl rfl rfl⟩
                case measure => simp [intOf]; omega
            · skip
              have HWI : Hid (wideB (F : Int) U st.ww = false) := by
                show _ = _
                rw [Bool.eq_false_iff]; intro hh; simp [wideB] at hh; omega

              have HSX := HSS.out
              rw [HWI.out] at HSX
              simp only [if_true, Bool.false_eq_true, if_false] at HSX

              have HS2 := TW.hide HSX
              clear HSX HSS HWI h7
              go_wp2_with (refine wpList_store_row (by rfl) 26 _ _ (by rfl) p (pcP (setQ st.q (F : Int) U) (.slice a1 st.s.length c1) (.slice a2 st.t.length c2)) (by rfl) (by rfl) 26 _ HQ6.out.par (info31 _ _ _) (pc_size Pm.zero _ _ _ _ _) (pc_one _ _ _ _ _ _ _) ?_; generalize w6.setRow p (pcP (setQ st.q (F : Int) U) (.slice a1 st.s.length c1) (.slice a2 st.t.length c2)) = X7 at *; simp only [Act.put, List.setIfInBounds_toArray, List.set_cons_zero, List.set_cons_succ, List.getElem_toArray, List.getElem_cons_zero, List.getElem_cons_succ])
              go_roundw
              case rel => exact ⟨⟨setQ st.q (F : Int) U, st.s, st.t, F, st.ats.set k ((n : Int) + 1), st.wa, st.ww⟩, rest, pre ++ ([32] ++ v), a1, a2, c1, c2, rfl, rfl, rfl, by rw [HPL.out]; go_num, HRE.out.2.2, HRE.out.1, HRE.out.2.1, by rw [HNX.out _ HS2.out, HPL.out]; congr 1; omega, HGD.out _ HS2.out, HQ7.out.as rfl rfl rfl rfl⟩
              case measure => simp [intOf]; omega
          have e5 : ((F : Int) == 5) = false := by simp; omega
          have e7 : ((F : Int) == 7) = false := by simp; omega
          have HWI : Hid (wideB (F : Int) U st.ww = false) := by
            show _ = _
            rw [Bool.eq_false_iff]; intro hh; simp [wideB] at hh; omega

          have HSX := HSS.out
          rw [HWI.out] at HSX
          simp only [if_true, Bool.false_eq_true, if_false] at HSX

          have HS2 := TW.hide HSX
          clear HSX HSS HWI
          go_wp2_with (refine wpList_store_row (by rfl) 26 _ _ (by rfl) p (pcP (setQ st.q (F : Int) U) (.slice a1 st.s.length c1) (.slice a2 st.t.length c2)) (by rfl) (by rfl) 26 _ HQ6.out.par (info31 _ _ _) (pc_size Pm.zero _ _ _ _ _) (pc_one _ _ _ _ _ _ _) ?_; generalize w6.setRow p (pcP (setQ st.q (F : Int) U) (.slice a1 st.s.length c1) (.slice a2 st.t.length c2)) = X7 at *; simp only [Act.put, List.setIfInBounds_toArray, List.set_cons_zero, List.set_cons_succ, List.getElem_toArray, List.getElem_cons_zero, List.getElem_cons_succ])
          go_roundw
          case rel => exact ⟨⟨setQ st.q (F : Int) U, st.s, st.t, F, st.ats.set k ((n : Int) + 1), st.wa, st.ww⟩, rest, pre ++ ([32] ++ v), a1, a2, c1, c2, rfl, rfl, rfl, by rw [HPL.out]; go_num, HRE.out.2.2, HRE.out.1, HRE.out.2.1, by rw [HNX.out _ HS2.out, HPL.out]; congr 1; omega, HGD.out _ HS2.out, HQ7.out.as rfl rfl rfl rfl⟩
          case measure => simp [intOf]; omega
        · have hlt : ¬ (F : Int) < 10 := by omega
          have hge : (10 : Int) ≤ (F : Int) := by omega
          clear hNU
          rcases hPB with ⟨rfl, hbn⟩ | ⟨rfl, b, hbs, rfl, hPn⟩
          · have HF := TW.hide (HNO.out (by unfold stepR; rw [hfs]; simp only; rw [if_neg (by omega), hbn]))
            clear hFk hfs
            go_wp2_with fail
            refine wp_region_noPanic ?_
            refine RG.wp_region_L (fun Z => True) (fun Z => TQ Z w B) [] (by kernel_rfl) ?_
            refine RG.wpL_any fun Yf hY => ?_
            have HTf : Hid (TQ Yf w B) := by rw [hY]; exact HT.out.drew
            clear hY
            refine RG.wpL_take (fuel := 3) (a' := ?Af) [0, 1, 2] (by kernel_rfl) (by kernel_rfl) (fun _ _ _ _ _ h => h) HTf.out (fun _ => trivial) ?rf ?_
            case rf =>
              refine RG.RunsIf.weak (v := .agg #[.int .i64 0, .int .i64 0, .int .i64 0, .int .i64 0, .int .u32 0, .int .u64 0, .int .u32 0, .int .i64 0, .int .i64 0, .slice none 0 0, .slice none 0 0]) (by rfl) (by rfl) (fun Z hT => exec_load_row' 26 _ (by rfl) (B + 1) (by rfl) 26 #[.int .i64 0, .int .i64 0, .int .i64 0, .int .i64 0, .int .u32 0, .int .u64 0, .int .u32 0, .int .i64 0, .int .i64 0, .slice none 0 0, .slice none 0 0] (0, 0) _ hT.non Tryd.underlying26 rfl (by kernel_rfl)) ?_
              simp only [Act.put, List.setIfInBounds_toArray, List.set_cons_zero, List.set_cons_succ, List.getElem_toArray, List.getElem_cons_zero, List.getElem_cons_succ]
              refine RG.RunsIf.weak (v := ?_) (by rfl) (by rfl) (fun Z hT => ?_) ?_
              rotate_left
              · go_simp
                rfl
              simp only [Act.put, List.setIfInBounds_toArray, List.set_cons_zero, List.set_cons_succ, List.getElem_toArray, List.getElem_cons_zero, List.getElem_cons_succ]
              refine RG.RunsIf.weak (v := ?_) (by rfl) (by rfl) (fun Z hT => ?_) ?_
              rotate_left
              · go_simp
                rfl
              simp only [Act.put, List.setIfInBounds_toArray, List.set_cons_zero, List.set_cons_succ, List.getElem_toArray, List.getElem_cons_zero, List.getElem_cons_succ]
              exact RG.RunsIf.nil
            have HUf : Hid (TQ (Yf.setRow B #[.int .i64 0, .int .i64 0, .int .i64 0, .int .i64 0, .int .u32 0, .int .u64 0, .int .u32 0, .int .i64 0, .int .i64 0, .slice none 0 0, .slice none 0 0]) w B) := HTf.out.setRow
            refine RG.wpL_step (i := 3) (by kernel_rfl) (by rfl) (by rfl) (fun KX hK => ?_)
            have HKX := TW.hide hK
            clear hK
            refine wp_store_row 26 _ _ (by rfl) B #[.int .i64 0, .int .i64 0, .int .i64 0, .int .i64 0, .int .u32 0, .int .u64 0, .int .u32 0, .int .i64 0, .int .i64 0, .slice none 0 0, .slice none 0 0] (by rfl) (by rfl) 26 _ HTf.out.res (by kernel_rfl) (by rfl) (by kernel_rfl) ?_
            simp only [Act.put, List.setIfInBounds_toArray, List.set_cons_zero, List.set_cons_succ, List.getElem_toArray, List.getElem_cons_zero, List.getElem_cons_succ]
            refine HKX.out _ _ HUf.out (fun _ => trivial) ?_
            clear HKX KX HTf
            generalize Yf.setRow B #[.int .i64 0, .int .i64 0, .int .i64 0, .int .i64 0, .int .u32 0, .int .u64 0, .int .u32 0, .int .i64 0, .int .i64 0, .slice none 0 0, .slice none 0 0] = Vf at *
            refine RG.wpL_take (fuel := 0) (a' := ?Bf) [4, 5] (by kernel_rfl) (by kernel_rfl) (fun _ _ _ _ _ h => h) HUf.out (fun _ => trivial) ?sf ?_
            case sf =>
              refine RG.RunsIf.weak (v := ?_) (by rfl) (by rfl) (fun Z hT => ?_) ?_
              rotate_left
              · go_simp
                rfl
              simp only [Act.put, List.setIfInBounds_toArray, List.set_cons_zero, List.set_cons_succ, List.getElem_toArray, List.getElem_cons_zero, List.getElem_cons_succ]
              refine RG.RunsIf.weak (v := ?_) (by rfl) (by rfl) (fun Z hT => ?_) ?_
              rotate_left
              · go_simp
                rfl
              simp only [Act.put, List.setIfInBounds_toArray, List.set_cons_zero, List.set_cons_succ, List.getElem_toArray, List.getElem_cons_zero, List.getElem_cons_succ]
              exact RG.RunsIf.nil
            refine RG.wpL_done (by kernel_rfl) ?_ _
            refine NoPanic.normal ?_
            go_wp2
            refine bodyPost_ret (v := .tuple #[.int .i64 0, .agg #[.int .i64 0, .int .i64 0, .int .i64 0, .int .i64 0, .int .u32 0, .int .u64 0, .int .u32 0, .int .i64 0, .int .i64 0, .slice none 0 0, .slice none 0 0], .int .i64 ((n : Int) + 1), .int .i64 4]) (results_rread _ _ B 0 ((n : Int) + 1) 4 #[.int .i64 0, .int .i64 0, .int .i64 0, .int .i64 0, .int .u32 0, .int .u64 0, .int .u32 0, .int .i64 0, .int .i64 0, .slice none 0 0, .slice none 0 0] rfl rfl rfl rfl HUf.out.res (by kernel_rfl)) rfl ?_
            rw [HF.out]
            refine ⟨?_, rfl⟩
            rw [hB]
            exact HUf.out.bel

          have hk2 : k = 9 ∨ k = 10 := by omega
          clear eF0 hF0 hF12 hF12' h9 hlt hge
          subst hFk
          rcases hk2 with rfl | rfl
          · have HSS : Hid (stepR st v ((n : Int) + 1) = some ⟨st.q, b, st.t, 10, st.ats.set 9 ((n : Int) + 1), st.wa, st.ww⟩) := by
              show _ = _
              unfold stepR
              rw [hfs]
              simp only
              rw [if_neg (by omega), hbs]
              simp
            have HQ5 := TW.hide (HQ4.out.at_ 9 10 rfl (by omega) hst.n ((n : Int) + 1))
            have cF : w4.cell? ⟨g, 10, none⟩ = some (.int .i64 ((0 :: st.ats).getD 10 0)) := blk_cell HQ4.out.ats (by
              rw [List.getElem?_toArray, List.getElem?_map, List.getD_eq_getElem?_getD, List.getElem?_eq_getElem (by simp [hst.n])]; rfl)
            have fF : w4.frozen? ⟨g, 10, none⟩ = false := by simp [World.frozen?, HQ4.out.ats]
            have hpg := HQ4.out.pg
            have cP := blk_cell (i := 9) HQ5.out.par rfl
            have fP : (w4.setCell ⟨g, 10, none⟩ (.int .i64 ((n : Int) + 1))).frozen? ⟨p, 9, none⟩ = false := by simp [World.frozen?, HQ5.out.par]
            have HQ7 := TW.hide (HQ5.out.salt x c b ((hPn.mono (show g + 1 ≤ w3.heap.size by omega)).set (by omega) _))
            clear hfs hbs HQ4 HT HNO HQ5 hPn
            go_wp2
            go_roundw
            case rel => exact ⟨⟨st.q, b, st.t, 10, st.ats.set 9 ((n : Int) + 1), st.wa, st.ww⟩, rest, pre ++ ([32] ++ v), x, a2, c, c2, rfl, rfl, rfl, by rw [HPL.out]; go_num, HRE.out.2.2, HRE.out.1, HRE.out.2.1, by rw [HNX.out _ HSS.out, HPL.out]; congr 1; omega, HGD.out _ HSS.out, HQ7.out.as rfl rfl rfl rfl⟩
            case measure => simp [intOf]; omega
          · have HSS : Hid (stepR st v ((n : Int) + 1) = some ⟨st.q, st.s, b, 11, st.ats.set 10 ((n : Int) + 1), st.wa, st.ww⟩) := by
              show _ = _
              unfold stepR
              rw [hfs]
              simp only
              rw [if_neg (by omega), hbs]
              simp
            have HQ5 := TW.hide (HQ4.out.at_ 10 11 rfl (by omega) hst.n ((n : Int) + 1))
            have cF : w4.cell? ⟨g, 11, none⟩ = some (.int .i64 ((0 :: st.ats).getD 11 0)) := blk_cell HQ4.out.ats (by
              rw [List.getElem?_toArray, List.getElem?_map, List.getD_eq_getElem?_getD, List.getElem?_eq_getElem (by simp [hst.n])]; rfl)
            have fF : w4.frozen? ⟨g, 11, none⟩ = false := by simp [World.frozen?, HQ4.out.ats]
            have hpg := HQ4.out.pg
            have cP := blk_cell (i := 10) HQ5.out.par rfl
            have fP : (w4.setCell ⟨g, 11, none⟩ (.int .i64 ((n : Int) + 1))).frozen? ⟨p, 10, none⟩ = false := by simp [World.frozen?, HQ5.out.par]
            have HQ7 := TW.hide (HQ5.out.pers x c b ((hPn.mono (show g + 1 ≤ w3.heap.size by omega)).set (by omega) _))
            clear hfs hbs HQ4 HT HNO HQ5 hPn
            go_wp2
            go_roundw
            case rel => exact ⟨⟨st.q, st.s, b, 11, st.ats.set 10 ((n : Int) + 1), st.wa, st.ww⟩, rest, pre ++ ([32] ++ v), a1, x, c1, c, rfl, rfl, rfl, by rw [HPL.out]; go_num, HRE.out.2.2, HRE.out.1, HRE.out.2.1, by rw [HNX.out _ HSS.out, HPL.out]; congr 1; omega, HGD.out _ HSS.out, HQ7.out.as rfl rfl rfl rfl⟩
            case measure => simp [intOf]; omega
  rcases hk with rfl | rfl
  · have e1 : ((strOfNums (knL 1)).toList == [50, 98]) = true := by rw [lit2b]; rfl
    go_wp2_with fail
    refine (HW0.out _).mono ?_
    rintro e w1 ⟨rfl, rfl⟩
    go_wp2_with fail
    exact HAF.out _ _ _ _ _ _ _ _ _ _ _ _
  · have e1 : ((strOfNums (knL 2)).toList == [50, 98]) = false := by rw [lit2s]; rfl
    have e2 : ((strOfNums (knL 2)).toList == [50, 115]) = true := by rw [lit2s]; rfl
    go_wp2_with fail
    refine (HW0.out _).mono ?_
    rintro e w1 ⟨rfl, rfl⟩
    go_wp2_with fail
    exact HAF.out _ _ _ _ _ _ _ _ _ _ _ _
end LW
end Go.Proofs.YteakoajkmcbilabDoor
namespace Go.Proofs.YteakoajkmcbilabDoor
open Go.RowKit Go.Shelf
set_option linter.unusedVariables false
set_option linter.unusedSimpArgs false
namespace LW
open Words Txt
set_option maxRecDepth 100000 in
set_option maxHeartbeats 4000000 in
theorem readLong (line : ByteArray) (w : World) (hsz : (512 : Int) < (line.size : Int)) :
    Calls Tryd.prog 9 #[.string line] w fun e w' => e = .returned (.tuple #[.int .i64 0, .agg #[.int .i64 0, .int .i64 0, .int .i64 0, .int .i64 0, .int .u32 0, .int .u64 0, .int .u32 0, .int .i64 0, .int .i64 0, .slice none 0 0, .slice none 0 0], .int .i64 0, .int .i64 2]) ∧ Below w.heap.size w w' := by
  have b0 := ((((Below.refl w.heap.size w).alloc (Nat.le_refl _) (.cells #[.int .i64 0] 30)).alloc (by simp) (.cells #[.int .i64 0, .int .i64 0, .int .i64 0, .int .i64 0, .int .u32 0, .int .u64 0, .int .u32 0, .int .i64 0, .int .i64 0, .slice none 0 0, .slice none 0 0] 26)).alloc (by simp; omega) (.cells #[.int .i64 0] 3)).alloc (by simp; omega) (.cells #[.int .i64 0] 27)
  go_enter_defers Tryd.func9, Tryd.ntmps9
  refine wp_seq_k fun KK hK => ?_
  have HK := TW.hide hK
  clear hK
  go_wp2
  refine HK.out _ _ ?_
  clear HK KK
  have k0 : ((((w.alloc (.cells #[.int .i64 0] 30)).alloc (.cells #[.int .i64 0, .int .i64 0, .int .i64 0, .int .i64 0, .int .u32 0, .int .u64 0, .int .u32 0, .int .i64 0, .int .i64 0, .slice none 0 0, .slice none 0 0] 26)).alloc (.cells #[.int .i64 0] 3)).alloc (.cells #[.int .i64 0] 27)).heap[w.heap.size]? = some (.cells #[.int .i64 0] 30 (0, 0)) := blk_alloc (blk_alloc (blk_alloc (heap_alloc_new w _)))
  have k1 : ((((w.alloc (.cells #[.int .i64 0] 30)).alloc (.cells #[.int .i64 0, .int .i64 0, .int .i64 0, .int .i64 0, .int .u32 0, .int .u64 0, .int .u32 0, .int .i64 0, .int .i64 0, .slice none 0 0, .slice none 0 0] 26)).alloc (.cells #[.int .i64 0] 3)).alloc (.cells #[.int .i64 0] 27)).heap[w.heap.size + 1]? = some (.cells #[.int .i64 0, .int .i64 0, .int .i64 0, .int .i64 0, .int .u32 0, .int .u64 0, .int .u32 0, .int .i64 0, .int .i64 0, .slice none 0 0, .slice none 0 0] 26 (0, 0)) := by
    have := heap_alloc_new (w.alloc (.cells #[.int .i64 0] 30)) (.cells #[.int .i64 0, .int .i64 0, .int .i64 0, .int .i64 0, .int .u32 0, .int .u64 0, .int .u32 0, .int .i64 0, .int .i64 0, .slice none 0 0, .slice none 0 0] 26)
    rw [show (w.alloc (.cells #[.int .i64 0] 30)).heap.size = w.heap.size + 1 by simp] at this
    exact blk_alloc (blk_alloc this)
  have k2 : ((((w.alloc (.cells #[.int .i64 0] 30)).alloc (.cells #[.int .i64 0, .int .i64 0, .int .i64 0, .int .i64 0, .int .u32 0, .int .u64 0, .int .u32 0, .int .i64 0, .int .i64 0, .slice none 0 0, .slice none 0 0] 26)).alloc (.cells #[.int .i64 0] 3)).alloc (.cells #[.int .i64 0] 27)).heap[w.heap.size + 1 + 1]? = some (.cells #[.int .i64 0] 3 (0, 0)) := by
    have := heap_alloc_new ((w.alloc (.cells #[.int .i64 0] 30)).alloc (.cells #[.int .i64 0, .int .i64 0, .int .i64 0, .int .i64 0, .int .u32 0, .int .u64 0, .int .u32 0, .int .i64 0, .int .i64 0, .slice none 0 0, .slice none 0 0] 26)) (.cells #[.int .i64 0] 3)
    rw [show ((w.alloc (.cells #[.int .i64 0] 30)).alloc (.cells #[.int .i64 0, .int .i64 0, .int .i64 0, .int .i64 0, .int .u32 0, .int .u64 0, .int .u32 0, .int .i64 0, .int .i64 0, .slice none 0 0, .slice none 0 0] 26)).heap.size = w.heap.size + 1 + 1 by simp] at this
    exact blk_alloc this
  have k3 : ((((w.alloc (.cells #[.int .i64 0] 30)).alloc (.cells #[.int .i64 0, .int .i64 0, .int .i64 0, .int .i64 0, .int .u32 0, .int .u64 0, .int .u32 0, .int .i64 0, .int .i64 0, .slice none 0 0, .slice none 0 0] 26)).alloc (.cells #[.int .i64 0] 3)).alloc (.cells #[.int .i64 0] 27)).heap[w.heap.size + 1 + 1 + 1]? = some (.cells #[.int .i64 0] 27 (0, 0)) := by
    have := heap_alloc_new (((w.alloc (.cells #[.int .i64 0] 30)).alloc (.cells #[.int .i64 0, .int .i64 0, .int .i64 0, .int .i64 0, .int .u32 0, .int .u64 0, .int .u32 0, .int .i64 0, .int .i64 0, .slice none 0 0, .slice none 0 0] 26)).alloc (.cells #[.int .i64 0] 3)) (.cells #[.int .i64 0] 27)
    rw [show (((w.alloc (.cells #[.int .i64 0] 30)).alloc (.cells #[.int .i64 0, .int .i64 0, .int .i64 0, .int .i64 0, .int .u32 0, .int .u64 0, .int .u32 0, .int .i64 0, .int .i64 0, .slice none 0 0, .slice none 0 0] 26)).alloc (.cells #[.int .i64 0] 3)).heap.size = w.heap.size + 1 + 1 + 1 by simp] at this
    exact this
  generalize (((w.alloc (.cells #[.int .i64 0] 30)).alloc (.cells #[.int .i64 0, .int .i64 0, .int .i64 0, .int .i64 0, .int .u32 0, .int .u64 0, .int .u32 0, .int .i64 0, .int .i64 0, .slice none 0 0, .slice none 0 0] 26)).alloc (.cells #[.int .i64 0] 3)).alloc (.cells #[.int .i64 0] 27) = X0 at *
  generalize hB : w.heap.size = B at *
  have B0 := TW.hide b0
  have K0 := TW.hide k0
  have K1 := TW.hide k1
  have K2 := TW.hide k2
  have K3 := TW.hide k3
  clear b0 k0 k1 k2 k3
  generalize hq1 : B + 1 = q1 at *
  generalize hq2 : q1 + 1 = q2 at *
  generalize hq3 : q2 + 1 = q3 at *
  have c0 := blk_cell (i := 0) K0.out rfl
  have f0 : X0.frozen? ⟨B, 0, none⟩ = false := by simp [World.frozen?, K0.out]
  have a0 := blk_set (i := 0) (u := .int .i64 0) K0.out
  have a1 := blk_other (p := B) (o := 0) (u := .int .i64 0) K1.out (by omega)
  have a2 := blk_other (p := B) (o := 0) (u := .int .i64 0) K2.out (by omega)
  have a3 := blk_other (p := B) (o := 0) (u := .int .i64 0) K3.out (by omega)
  have r0 : ((X0.setCell ⟨B, 0, none⟩ (.int .i64 0)).setRow q1 #[.int .i64 0, .int .i64 0, .int .i64 0, .int .i64 0, .int .u32 0, .int .u64 0, .int .u32 0, .int .i64 0, .int .i64 0, .slice none 0 0, .slice none 0 0]).heap[B]? = _ := (setRow_other _ _ _ _ (by omega)).trans a0
  have r1 := setRow_heap _ _ _ #[.int .i64 0, .int .i64 0, .int .i64 0, .int .i64 0, .int .u32 0, .int .u64 0, .int .u32 0, .int .i64 0, .int .i64 0, .slice none 0 0, .slice none 0 0] _ _ a1
  have r2 : ((X0.setCell ⟨B, 0, none⟩ (.int .i64 0)).setRow q1 #[.int .i64 0, .int .i64 0, .int .i64 0, .int .i64 0, .int .u32 0, .int .u64 0, .int .u32 0, .int .i64 0, .int .i64 0, .slice none 0 0, .slice none 0 0]).heap[q2]? = _ := (setRow_other _ _ _ _ (by omega)).trans a2
  have r3 : ((X0.setCell ⟨B, 0, none⟩ (.int .i64 0)).setRow q1 #[.int .i64 0, .int .i64 0, .int .i64 0, .int .i64 0, .int .u32 0, .int .u64 0, .int .u32 0, .int .i64 0, .int .i64 0, .slice none 0 0, .slice none 0 0]).heap[q3]? = _ := (setRow_other _ _ _ _ (by omega)).trans a3
  have BR : Hid (Below B w ((X0.setCell ⟨B, 0, none⟩ (.int .i64 0)).setRow q1 #[.int .i64 0, .int .i64 0, .int .i64 0, .int .i64 0, .int .u32 0, .int .u64 0, .int .u32 0, .int .i64 0, .int .i64 0, .slice none 0 0, .slice none 0 0])) := below_setRow (B0.out.setCell (Nat.le_refl _) _) (by omega)
  have R0 := TW.hide r0
  have R1 := TW.hide r1
  have R2 := TW.hide r2
  have R3 := TW.hide r3
  have A1' := TW.hide a1
  clear r0 r1 r2 r3 a0 a1 a2 a3 K0 K1 K2 K3 B0
  go_wp2_with (refine wpList_store_row (by rfl) 26 _ _ (by rfl) q1 #[.int .i64 0, .int .i64 0, .int .i64 0, .int .i64 0, .int .u32 0, .int .u64 0, .int .u32 0, .int .i64 0, .int .i64 0, .slice none 0 0, .slice none 0 0] (by rfl) (by rfl) 26 _ A1'.out (by kernel_rfl) (by rfl) (by kernel_rfl) ?_; generalize (X0.setCell ⟨B, 0, none⟩ (.int .i64 0)).setRow q1 #[.int .i64 0, .int .i64 0, .int .i64 0, .int .i64 0, .int .u32 0, .int .u64 0, .int .u32 0, .int .i64 0, .int .i64 0, .slice none 0 0, .slice none 0 0] = Y at *; simp only [Act.put, List.setIfInBounds_toArray, List.set_cons_zero, List.set_cons_succ, List.getElem_toArray, List.getElem_cons_zero, List.getElem_cons_succ]; have c2 := blk_cell (i := 0) R2.out rfl; have f2 : Y.frozen? ⟨q2, 0, none⟩ = false := (by simp [World.frozen?, R2.out]); have s3 := blk_other (p := q2) (o := 0) (u := .int .i64 0) R3.out (by omega); have c3 := blk_cell (i := 0) s3 rfl; have f3 : (Y.setCell ⟨q2, 0, none⟩ (.int .i64 0)).frozen? ⟨q3, 0, none⟩ = false := (by simp [World.frozen?, s3]); clear s3)
  have t0 := blk_other (p := q3) (o := 0) (u := .int .i64 2) (blk_other (p := q2) (o := 0) (u := .int .i64 0) R0.out (by omega)) (by omega)
  have t1 := blk_other (p := q3) (o := 0) (u := .int .i64 2) (blk_other (p := q2) (o := 0) (u := .int .i64 0) R1.out (by omega)) (by omega)
  have t2 := blk_other (p := q3) (o := 0) (u := .int .i64 2) (blk_set (i := 0) (u := .int .i64 0) R2.out) (by omega)
  have t3 := blk_set (i := 0) (u := .int .i64 2) (blk_other (p := q2) (o := 0) (u := .int .i64 0) R3.out (by omega))
  have BD : Hid (Below B w ((Y.setCell ⟨q2, 0, none⟩ (.int .i64 0)).setCell ⟨q3, 0, none⟩ (.int .i64 2))) := (BR.out.setCell (show B ≤ q2 by omega) _).setCell (show B ≤ q3 by omega) _
  refine ⟨_, results_readE _ _ B q1 q2 q3 0 0 2 #[.int .i64 0, .int .i64 0, .int .i64 0, .int .i64 0, .int .u32 0, .int .u64 0, .int .u32 0, .int .i64 0, .int .i64 0, .slice none 0 0, .slice none 0 0] rfl rfl rfl rfl (blk_cell (i := 0) t0 rfl) t1 (blk_cell (i := 0) t2 rfl) (blk_cell (i := 0) t3 rfl) (by kernel_rfl), ?_⟩
  exact ⟨rfl, BD.out⟩
set_option maxRecDepth 100000 in
set_option maxHeartbeats 4000000 in
theorem rreadLong (line : ByteArray) (w : World) (hsz : (512 : Int) < (line.size : Int)) :
    Calls Tryd.prog 10 #[.string line] w fun e w' => e = .returned (.tuple #[.int .i64 0, .agg #[.int .i64 0, .int .i64 0, .int .i64 0, .int .i64 0, .int .u32 0, .int .u64 0, .int .u32 0, .int .i64 0, .int .i64 0, .slice none 0 0, .slice none 0 0], .int .i64 0, .int .i64 2]) ∧ Below w.heap.size w w' := by
  have b1 := ((Below.refl w.heap.size w).alloc (Nat.le_refl _) (.cells #[.int .i64 0, .int .i64 0, .int .i64 0, .int .i64 0, .int .u32 0, .int .u64 0, .int .u32 0, .int .i64 0, .int .i64 0, .slice none 0 0, .slice none 0 0] 26)).alloc (by simp) (.cells #[.int .i64 0, .int .i64 0, .int .i64 0, .int .i64 0, .int .u32 0, .int .u64 0, .int .u32 0, .int .i64 0, .int .i64 0, .slice none 0 0, .slice none 0 0] 26)
  have q0 : ((w.alloc (.cells #[.int .i64 0, .int .i64 0, .int .i64 0, .int .i64 0, .int .u32 0, .int .u64 0, .int .u32 0, .int .i64 0, .int .i64 0, .slice none 0 0, .slice none 0 0] 26)).alloc (.cells #[.int .i64 0, .int .i64 0, .int .i64 0, .int .i64 0, .int .u32 0, .int .u64 0, .int .u32 0, .int .i64 0, .int .i64 0, .slice none 0 0, .slice none 0 0] 26)).heap[w.heap.size]? = some (.cells #[.int .i64 0, .int .i64 0, .int .i64 0, .int .i64 0, .int .u32 0, .int .u64 0, .int .u32 0, .int .i64 0, .int .i64 0, .slice none 0 0, .slice none 0 0] 26 (0, 0)) := blk_alloc (heap_alloc_new w _)
  have q1 := heap_alloc_new (w.alloc (.cells #[.int .i64 0, .int .i64 0, .int .i64 0, .int .i64 0, .int .u32 0, .int .u64 0, .int .u32 0, .int .i64 0, .int .i64 0, .slice none 0 0, .slice none 0 0] 26)) (.cells #[.int .i64 0, .int .i64 0, .int .i64 0, .int .i64 0, .int .u32 0, .int .u64 0, .int .u32 0, .int .i64 0, .int .i64 0, .slice none 0 0, .slice none 0 0] 26)
  rw [show (w.alloc (.cells #[.int .i64 0, .int .i64 0, .int .i64 0, .int .i64 0, .int .u32 0, .int .u64 0, .int .u32 0, .int .i64 0, .int .i64 0, .slice none 0 0, .slice none 0 0] 26)).heap.size = w.heap.size + 1 by simp] at q1
  go_enter Tryd.func10, Tryd.ntmps10
  refine wp_seq_k fun KK hK => ?_
  have HK := TW.hide hK
  clear hK
  go_wp2
  refine HK.out _ _ ?_
  clear HK KK
  refine wp_seq_k fun KK hK => ?_
  have HK := TW.hide hK
  clear hK
  go_wp2
  refine HK.out _ _ ?_
  clear HK KK
  generalize (w.alloc (.cells #[.int .i64 0, .int .i64 0, .int .i64 0, .int .i64 0, .int .u32 0, .int .u64 0, .int .u32 0, .int .i64 0, .int .i64 0, .slice none 0 0, .slice none 0 0] 26)).alloc (.cells #[.int .i64 0, .int .i64 0, .int .i64 0, .int .i64 0, .int .u32 0, .int .u64 0, .int .u32 0, .int .i64 0, .int .i64 0, .slice none 0 0, .slice none 0 0] 26) = X at *
  generalize hB : w.heap.size = B at *
  have HT0 : Hid (TQ X w B) := ⟨q0, q1, b1⟩
  clear q0 q1 b1
  refine wp_seq_k fun KK hK => ?_
  have HK := TW.hide hK
  clear hK
  go_wp2_with fail
  refine wp_region_noPanic ?_
  refine RG.wp_region_L (fun Z => True) (fun Z => TQ Z w B) [] (by kernel_rfl) ?_
  refine RG.wpL_any fun Yz hY => ?_
  have HTz : Hid (TQ Yz w B) := by rw [hY]; exact HT0.out.drew
  clear hY
  refine RG.wpL_take (fuel := 3) (a' := ?Az) [0, 1] (by kernel_rfl) (by kernel_rfl) (fun _ _ _ _ _ h => h) HTz.out (fun _ => trivial) ?rz ?_
  case rz =>
    refine RG.RunsIf.weak (v := .agg #[.int .i64 0, .int .i64 0, .int .i64 0, .int .i64 0, .int .u32 0, .int .u64 0, .int .u32 0, .int .i64 0, .int .i64 0, .slice none 0 0, .slice none 0 0]) (by rfl) (by rfl) (fun Z hT => exec_load_row' 26 _ (by rfl) (B + 1) (by rfl) 26 #[.int .i64 0, .int .i64 0, .int .i64 0, .int .i64 0, .int .u32 0, .int .u64 0, .int .u32 0, .int .i64 0, .int .i64 0, .slice none 0 0, .slice none 0 0] (0, 0) _ hT.non Tryd.underlying26 rfl (by kernel_rfl)) ?_
    simp only [Act.put, List.setIfInBounds_toArray, List.set_cons_zero, List.set_cons_succ, List.getElem_toArray, List.getElem_cons_zero, List.getElem_cons_succ]
    refine RG.RunsIf.weak (v := ?_) (by rfl) (by rfl) (fun Z hT => ?_) ?_
    rotate_left
    · go_simp
      rfl
    simp only [Act.put, List.setIfInBounds_toArray, List.set_cons_zero, List.set_cons_succ, List.getElem_toArray, List.getElem_cons_zero, List.getElem_cons_succ]
    exact RG.RunsIf.nil
  have HUz : Hid (TQ (Yz.setRow B #[.int .i64 0, .int .i64 0, .int .i64 0, .int .i64 0, .int .u32 0, .int .u64 0, .int .u32 0, .int .i64 0, .int .i64 0, .slice none 0 0, .slice none 0 0]) w B) := HTz.out.setRow
  refine RG.wpL_step (i := 2) (by kernel_rfl) (by rfl) (by rfl) (fun KX hK => ?_)
  have HKX := TW.hide hK
  clear hK
  refine wp_store_row 26 _ _ (by rfl) B #[.int .i64 0, .int .i64 0, .int .i64 0, .int .i64 0, .int .u32 0, .int .u64 0, .int .u32 0, .int .i64 0, .int .i64 0, .slice none 0 0, .slice none 0 0] (by rfl) (by rfl) 26 _ HTz.out.res (by kernel_rfl) (by rfl) (by kernel_rfl) ?_
  simp only [Act.put, List.setIfInBounds_toArray, List.set_cons_zero, List.set_cons_succ, List.getElem_toArray, List.getElem_cons_zero, List.getElem_cons_succ]
  refine HKX.out _ _ HUz.out (fun _ => trivial) ?_
  clear HKX KX HTz
  generalize Yz.setRow B #[.int .i64 0, .int .i64 0, .int .i64 0, .int .i64 0, .int .u32 0, .int .u64 0, .int .u32 0, .int .i64 0, .int .i64 0, .slice none 0 0, .slice none 0 0] = Vz at *
  refine RG.wpL_take (fuel := 0) (a' := ?Bz) [3, 4] (by kernel_rfl) (by kernel_rfl) (fun _ _ _ _ _ h => h) HUz.out (fun _ => trivial) ?sz ?_
  case sz =>
    refine RG.RunsIf.weak (v := ?_) (by rfl) (by rfl) (fun Z hT => ?_) ?_
    rotate_left
    · go_simp
      rfl
    simp only [Act.put, List.setIfInBounds_toArray, List.set_cons_zero, List.set_cons_succ, List.getElem_toArray, List.getElem_cons_zero, List.getElem_cons_succ]
    refine RG.RunsIf.weak (v := ?_) (by rfl) (by rfl) (fun Z hT => ?_) ?_
    rotate_left
    · go_simp
      rfl
    simp only [Act.put, List.setIfInBounds_toArray, List.set_cons_zero, List.set_cons_succ, List.getElem_toArray, List.getElem_cons_zero, List.getElem_cons_succ]
    exact RG.RunsIf.nil
  refine RG.wpL_done (by kernel_rfl) ?_ _
  refine NoPanic.normal ?_
  go_wp2
  refine bodyPost_ret (v := .tuple #[.int .i64 0, .agg #[.int .i64 0, .int .i64 0, .int .i64 0, .int .i64 0, .int .u32 0, .int .u64 0, .int .u32 0, .int .i64 0, .int .i64 0, .slice none 0 0, .slice none 0 0], .int .i64 0, .int .i64 2]) (results_rread _ _ B 0 0 2 #[.int .i64 0, .int .i64 0, .int .i64 0, .int .i64 0, .int .u32 0, .int .u64 0, .int .u32 0, .int .i64 0, .int .i64 0, .slice none 0 0, .slice none 0 0] rfl rfl rfl rfl HUz.out.res (by kernel_rfl)) rfl ?_
  exact ⟨rfl, HUz.out.bel⟩

end LW
end Go.Proofs.YteakoajkmcbilabDoor
namespace Go.Proofs.YteakoajkmcbilabDoor
open Go.RowKit Go.Shelf
set_option linter.unusedVariables false
set_option linter.unusedSimpArgs false
namespace LW
open Words Txt
theorem alikeR (p : Pm) (S T : List Int) (sa ta sa' ta' : Option Addr) (sc tc sc' tc' : Nat) (w : World) (h1 : Pb w sa sc S) (h2 : Pb w ta tc T) (h3 : Pb w sa' sc' S) (h4 : Pb w ta' tc' T) :
    Calls Tryd.prog 11 #[.agg (pcP p (.slice sa S.length sc) (.slice ta T.length tc)), .agg (pcP p (.slice sa' S.length sc') (.slice ta' T.length tc'))] w fun e w' => e = .returned (.bool true) ∧ Below w.heap.size w w' :=
  alikeE p.d p.k p.f p.dp p.lf p.off p.xof p.nd p.inn sa ta sa' ta' sc tc sc' tc' S T w h1.row h2.row h3.row h4.row (by have := h1.len; unfold maxLen; omega) (by have := h2.len; unfold maxLen; omega)
theorem strOf_sb (s : ByteArray) : strOfNums (sb s) = s := sb_inj (sb_str _ (sb_byt s))
theorem Pb_nil (w : World) : Pb w none 0 [] := (Pn_nil w 0).toPb
theorem joinI_byt_inv (ws : List (List Int)) (h : Byt (joinI ws)) : ∀ v ∈ ws, Byt v := by
  induction ws with
  | nil => intro v hv; cases hv
  | cons u ws ih =>
    intro v hv
    rcases List.mem_cons.1 hv with rfl | hv
    · exact fun z hz => h z (by simp [joinI, hz])
    · exact ih (fun z hz => h z (by simp [joinI, hz])) v hv
theorem bothRead (s : ByteArray) (m : Int) (es er : Value) (w : World) (hw : Rw w m es er) : ∃ (kd a y : Int) (q : Pm) (S T : List Int),
    (∀ W, Below w.heap.size w W → Calls Tryd.prog 9 #[.string s] W fun e w' => ∃ b1 d1 b2 d2, e = .returned (.tuple #[.int .i64 kd, .agg (pcP q (.slice b1 S.length d1) (.slice b2 T.length d2)), .int .i64 a, .int .i64 y]) ∧ Pb w' b1 d1 S ∧ Pb w' b2 d2 T ∧ Below W.heap.size W w') ∧ (∀ W, Below w.heap.size w W → Calls Tryd.prog 10 #[.string s] W fun e w' => ∃ b1 d1 b2 d2, e = .returned (.tuple #[.int .i64 kd, .agg (pcP q (.slice b1 S.length d1) (.slice b2 T.length d2)), .int .i64 a, .int .i64 y]) ∧ Pb w' b1 d1 S ∧ Pb w' b2 d2 T ∧ Below W.heap.size W w') := by
  by_cases hsz : (512 : Int) < (s.size : Int)
  · refine ⟨0, 0, 2, Pm.zero, [], [], fun W _ => ?_, fun W _ => ?_⟩
    · exact (readLong s W hsz).mono fun e w' h => ⟨none, 0, none, 0, h.1, Pb_nil _, Pb_nil _, h.2⟩
    · exact (rreadLong s W hsz).mono fun e w' h => ⟨none, 0, none, 0, h.1, Pb_nil _, Pb_nil _, h.2⟩
  · obtain ⟨w0, ws, hl, h0, hs⟩ := words_of (sb s)
    have hbs := sb_byt s
    rw [hl] at hbs
    have b0 : Byt w0 := fun z hz => hbs z (by simp [hz])
    have hbj : Byt (joinI ws) := fun z hz => hbs z (by simp [hz])
    have bs : ∀ v ∈ ws, Byt v := joinI_byt_inv ws hbj
    have hlen : (w0 ++ joinI ws).length ≤ 512 := by rw [← hl, sb_length]; omega
    have hA := fun W (hb : Below w.heap.size w W) => readA w0 ws m es er W b0 bs h0 hs hlen (hw.below hb)
    have hR := fun W => rreadA w0 ws W b0 bs h0 hs hlen
    rw [← hl, strOf_sb] at hA
    simp only [← hl, strOf_sb] at hR
    cases hF : rdF w0 ws with
    | inr ay =>
      obtain ⟨a, y⟩ := ay
      rw [hF] at hA
      simp only [hF] at hR
      refine ⟨0, a, y, Pm.zero, [], [], fun W hb => ?_, fun W _ => ?_⟩
      · exact (hA W hb).mono fun e w' h => ⟨none, 0, none, 0, h.2, Pb_nil _, Pb_nil _, h.1⟩
      · exact (hR W).mono fun e w' h => ⟨none, 0, none, 0, h.2, Pb_nil _, Pb_nil _, h.1⟩
    | inl ks =>
      obtain ⟨kd, st⟩ := ks
      rw [hF] at hA
      simp only [hF] at hR
      refine ⟨kd, 0, 0, st.q, tr st.s, tr st.t, fun W hb => ?_, fun W _ => ?_⟩
      · refine (hA W hb).mono ?_
        rintro e w' ⟨hb', b1, d1, b2, d2, he, p1, p2⟩
        exact ⟨b1, d1, b2, d2, he, p1, p2, hb'⟩
      · refine (hR W).mono ?_
        rintro e w' ⟨hb', b1, d1, b2, d2, he, p1, p2⟩
        exact ⟨b1, d1, b2, d2, he, p1, p2, hb'⟩
set_option maxRecDepth 100000 in
set_option maxHeartbeats 4000000 in
theorem reads (s : ByteArray) (m : Int) (es er : Value) (w : World) (hw : Rw w m es er) :
    Calls Tryd.prog 4 #[.string s] w fun e w' => e = .returned (.bool true) ∧ Below w.heap.size w w' := by
  obtain ⟨kd, a, y, q, S, T, h1, h2⟩ := bothRead s m es er w hw
  clear hw
  go_enter Tryd.func4, Tryd.ntmps4
  refine wp_seq_k fun KK hK => ?_
  have HK := TW.hide hK
  clear hK
  go_wp2
  refine HK.out _ _ ?_
  clear HK KK
  refine wp_seq_k fun KK hK => ?_
  have HK := TW.hide hK
  clear hK
  go_wp2_with fail
  refine (h1 _ (Below.refl _ _)).mono ?_
  rintro e w1 ⟨b1, d1, b2, d2, rfl, p1, p2, hb⟩
  have B1 := TW.hide hb
  have P1 := TW.hide p1
  have P2 := TW.hide p2
  clear hb p1 p2 h1
  go_wp2_with (first | (refine wpList_store_row (by rfl) 26 _ _ (by rfl) (w1.heap.size) (pcP q (.slice b1 S.length d1) (.slice b2 T.length d2)) (by rfl) (by rfl) 26 _ (heap_new w1 _) (info31 _ _ _) (pc_size Pm.zero _ _ _ _ _) (pc_one _ _ _ _ _ _ _) ?_))
  have n1 := setRow_heap _ _ _ (pcP q (.slice b1 S.length d1) (.slice b2 T.length d2)) _ _ (heap_new w1 (.cells #[.int .i64 0, .int .i64 0, .int .i64 0, .int .i64 0, .int .u32 0, .int .u64 0, .int .u32 0, .int .i64 0, .int .i64 0, .slice none 0 0, .slice none 0 0] 26))
  have bx := below_setRow (cs := (pcP q (.slice b1 S.length d1) (.slice b2 T.length d2))) ((Below.refl w1.heap.size w1).alloc (Nat.le_refl _) (.cells #[.int .i64 0, .int .i64 0, .int .i64 0, .int .i64 0, .int .u32 0, .int .u64 0, .int .u32 0, .int .i64 0, .int .i64 0, .slice none 0 0, .slice none 0 0] 26)) (g := w1.heap.size) (Nat.le_refl _)
  generalize (w1.alloc (.cells #[.int .i64 0, .int .i64 0, .int .i64 0, .int .i64 0, .int .u32 0, .int .u64 0, .int .u32 0, .int .i64 0, .int .i64 0, .slice none 0 0, .slice none 0 0] 26)).setRow w1.heap.size (pcP q (.slice b1 S.length d1) (.slice b2 T.length d2)) = X1 at n1 bx ⊢
  have N1 := TW.hide n1
  have B2 : Hid (Below w.heap.size w X1) := below_row B1.out bx B1.out.size
  have P3 := TW.hide (P1.out.below bx)
  have P4 := TW.hide (P2.out.below bx)
  generalize w1.heap.size = g1 at *
  clear n1 bx B1 P1 P2
  refine HK.out _ _ ?_
  clear HK KK
  refine wp_seq_k fun KK hK => ?_
  have HK := TW.hide hK
  clear hK
  go_wp2_with fail
  refine (h2 _ B2.out).mono ?_
  rintro e w2 ⟨b3, d3, b4, d4, rfl, p1, p2, hb⟩
  have N2 := TW.hide (blk_keep N1.out hb)
  have B3 : Hid (Below w.heap.size w w2) := below_row B2.out hb B2.out.size
  have P5 := TW.hide (P3.out.below hb)
  have P6 := TW.hide (P4.out.below hb)
  have P7 := TW.hide p1
  have P8 := TW.hide p2
  clear hb p1 p2 h2 N1 B2 P3 P4
  go_wp2_with (first | (refine wpList_store_row (by rfl) 26 _ _ (by rfl) (w2.heap.size) (pcP q (.slice b3 S.length d3) (.slice b4 T.length d4)) (by rfl) (by rfl) 26 _ (heap_new w2 _) (info31 _ _ _) (pc_size Pm.zero _ _ _ _ _) (pc_one _ _ _ _ _ _ _) ?_))
  have n2 := setRow_heap _ _ _ (pcP q (.slice b3 S.length d3) (.slice b4 T.length d4)) _ _ (heap_new w2 (.cells #[.int .i64 0, .int .i64 0, .int .i64 0, .int .i64 0, .int .u32 0, .int .u64 0, .int .u32 0, .int .i64 0, .int .i64 0, .slice none 0 0, .slice none 0 0] 26))
  have bx := below_setRow (cs := (pcP q (.slice b3 S.length d3) (.slice b4 T.length d4))) ((Below.refl w2.heap.size w2).alloc (Nat.le_refl _) (.cells #[.int .i64 0, .int .i64 0, .int .i64 0, .int .i64 0, .int .u32 0, .int .u64 0, .int .u32 0, .int .i64 0, .int .i64 0, .slice none 0 0, .slice none 0 0] 26)) (g := w2.heap.size) (Nat.le_refl _)
  generalize (w2.alloc (.cells #[.int .i64 0, .int .i64 0, .int .i64 0, .int .i64 0, .int .u32 0, .int .u64 0, .int .u32 0, .int .i64 0, .int .i64 0, .slice none 0 0, .slice none 0 0] 26)).setRow w2.heap.size (pcP q (.slice b3 S.length d3) (.slice b4 T.length d4)) = X2 at n2 bx ⊢
  have N3 := TW.hide n2
  have N4 := TW.hide (blk_keep N2.out bx)
  have B4 : Hid (Below w.heap.size w X2) := below_row B3.out bx B3.out.size
  have Q1 := TW.hide (P5.out.below bx)
  have Q2 := TW.hide (P6.out.below bx)
  have Q3 := TW.hide (P7.out.below bx)
  have Q4 := TW.hide (P8.out.below bx)
  generalize w2.heap.size = g2 at *
  clear n2 bx N2 B3 P5 P6 P7 P8
  refine HK.out _ _ ?_
  clear HK KK
  go_wp2_with (first | (refine wpList_val (.agg (pcP q (.slice b1 S.length d1) (.slice b2 T.length d2))) (by rfl) (exec_load_row' 26 _ (by rfl) (g1) (by rfl) 26 (pcP q (.slice b1 S.length d1) (.slice b2 T.length d2)) (0, 0) _ N4.out Tryd.underlying26 rfl (info31 _ _ _)) ?_) | (refine wpList_val (.agg (pcP q (.slice b3 S.length d3) (.slice b4 T.length d4))) (by rfl) (exec_load_row' 26 _ (by rfl) (g2) (by rfl) 26 (pcP q (.slice b3 S.length d3) (.slice b4 T.length d4)) (0, 0) _ N3.out Tryd.underlying26 rfl (info31 _ _ _)) ?_))
  refine (alikeR q S T b1 b2 b3 b4 d1 d2 d3 d4 _ Q1.out Q2.out Q3.out Q4.out).mono ?_
  rintro e w3 ⟨rfl, hb⟩
  have B5 : Hid (Below w.heap.size w w3) := below_row B4.out hb B4.out.size
  clear hb
  go_wp2
  go_ret
  exact ⟨rfl, B5.out⟩

end LW
end Go.Proofs.YteakoajkmcbilabDoor
