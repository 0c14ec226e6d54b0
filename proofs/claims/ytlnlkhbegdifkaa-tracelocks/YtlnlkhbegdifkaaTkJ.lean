/-
  The document's holder, holds and Held.
-/
import Derived.Test.YtlnlkhbegdifkaaTkI
namespace Go.Proofs.Ytlnlkhbegdifkaa
open Go.RowKit
set_option linter.unusedVariables false
set_option linter.unusedSimpArgs false
namespace LW
open Mc
theorem hdS_get (h : Option Int) (k who op a va : Int) (sh : Bool) : (Tr.hdS h k ⟨who, op, a, va, sh⟩).getD (-1) = if op = 8 ∧ a = k then who else if op = 9 ∧ a = k then -1 else h.getD (-1) := by
  unfold Tr.hdS
  dsimp only
  split
  · rfl
  split
  · rfl
  · rfl
set_option maxRecDepth 100000 in
set_option maxHeartbeats 4000000 in
theorem rholder (la : Option Addr) (lc : Nat) (l : List Ev) (i : Nat) (k : Int) (w : World) (hl : EvI w la lc l) (hi : i ≤ l.length) (hn : l.length ≤ 40000) :
    Calls Try.prog 23 #[.slice la l.length lc, .int .i64 (i : Int), .int .i64 k] w fun e w' => e = .returned (.int .i64 ((Tr.hdC (l.take i) k).getD (-1))) ∧ Below w.heap.size w w' := by
  obtain ⟨POST, hP⟩ : ∃ Q : Ending → World → Prop, Q = fun e w' => e = .returned (.int .i64 ((Tr.hdC (l.take i) k).getD (-1))) ∧ Below w.heap.size w w' := ⟨_, rfl⟩
  have HP := TW.hide hP
  rw [← hP]
  clear hP
  have HE := TW.hide hl
  clear hl
  go_enter Try.func23, Try.ntmps23
  go_wp2
  go_loopw [7, 8] (fun v j wr => ∃ m : Nat, m ≤ i ∧ j = .int .i64 (m : Int) ∧ v = .int .i64 ((Tr.hdC (l.take m) k).getD (-1)) ∧ Hid (Below w.heap.size w wr)) (fun v j wr => i - (intOf j).toNat)
  case atStart => exact ⟨0, Nat.zero_le _, rfl, rfl, TW.hide (Below.refl _ _)⟩
  case round =>
    obtain ⟨m, hm, rfl, rfl, HB⟩ := hrel
    by_cases hlt : m < i
    · have HLT := TW.hide hlt
      obtain ⟨b, off, who, op, a, va, sh, hla, hev, _, _, _, _, x0, x1, x2, x3, x4⟩ := (HE.out.below HB.out).get m (by omega)
      subst hla
      have hk1 : (m : Int) < (i : Int) := by omega
      have hk2 : (m : Int) < (l.length : Int) := by omega
      have hk0 : (0 : Int) ≤ (m : Int) := by omega
      have hk4 : m + 1 ≤ 40000 := by omega
      have HS : Hid ((Tr.hdC (l.take (m + 1)) k).getD (-1) = if op = 8 ∧ a = k then who else if op = 9 ∧ a = k then -1 else (Tr.hdC (l.take m) k).getD (-1)) := by
        show _ = _
        rw [take_ev l m (by omega), hev, Tr.hdC_snoc, hdS_get]
      clear hlt hev
      generalize (Tr.hdC (l.take m) k).getD (-1) = hm at *
      by_cases h8 : op = 8
      · have k8 : (op == 8) = true := by simp [h8]
        have k9 : (op == 9) = false := by simp; omega
        by_cases ha : a = k
        · have ka : (a == k) = true := by simp [ha]
          have HR : Hid ((Tr.hdC (l.take (m + 1)) k).getD (-1) = who) := by show _ = _; rw [HS.out, if_pos ⟨h8, ha⟩]
          clear h8 ha HS
          go_wp2
          go_roundw
          case rel => exact ⟨m + 1, HLT.out, by go_num, by rw [HR.out], HB⟩
          case measure => simp [intOf]; have := HLT.out; omega
        · have ka : (a == k) = false := by simp [ha]
          have HR : Hid ((Tr.hdC (l.take (m + 1)) k).getD (-1) = hm) := by show _ = _; rw [HS.out, if_neg (fun h => ha h.2), if_neg (fun h => ha h.2)]
          clear h8 ha HS
          go_wp2
          go_roundw
          case rel => exact ⟨m + 1, HLT.out, by go_num, by rw [HR.out], HB⟩
          case measure => simp [intOf]; have := HLT.out; omega
      · have k8 : (op == 8) = false := by simp [h8]
        by_cases h9 : op = 9
        · have k9 : (op == 9) = true := by simp [h9]
          by_cases ha : a = k
          · have ka : (a == k) = true := by simp [ha]
            have HR : Hid ((Tr.hdC (l.take (m + 1)) k).getD (-1) = -1) := by show _ = _; rw [HS.out, if_neg (fun h => h8 h.1), if_pos ⟨h9, ha⟩]
            clear h8 h9 ha HS
            go_wp2
            go_roundw
            case rel => exact ⟨m + 1, HLT.out, by go_num, by rw [HR.out], HB⟩
            case measure => simp [intOf]; have := HLT.out; omega
          · have ka : (a == k) = false := by simp [ha]
            have HR : Hid ((Tr.hdC (l.take (m + 1)) k).getD (-1) = hm) := by show _ = _; rw [HS.out, if_neg (fun h => ha h.2), if_neg (fun h => ha h.2)]
            clear h8 h9 ha HS
            go_wp2
            go_roundw
            case rel => exact ⟨m + 1, HLT.out, by go_num, by rw [HR.out], HB⟩
            case measure => simp [intOf]; have := HLT.out; omega
        · have k9 : (op == 9) = false := by simp [h9]
          have HR : Hid ((Tr.hdC (l.take (m + 1)) k).getD (-1) = hm) := by show _ = _; rw [HS.out, if_neg (fun h => h8 h.1), if_neg (fun h => h9 h.1)]
          clear h8 h9 HS
          go_wp2
          go_roundw
          case rel => exact ⟨m + 1, HLT.out, by go_num, by rw [HR.out], HB⟩
          case measure => simp [intOf]; have := HLT.out; omega
    · obtain rfl : m = i := by omega
      have kk : ¬ (m : Int) < (m : Int) := by omega
      have HR : Hid (POST (.returned (.int .i64 ((Tr.hdC (l.take m) k).getD (-1)))) wr) := by show POST _ _; rw [HP.out]; exact ⟨rfl, HB.out⟩
      go_wp2
      first | exact HR.out | exact ⟨rfl, HR.out⟩
theorem hd_eq (h : Option Int) (who : Int) (hw : 0 ≤ who) : (h.getD (-1) == who) = decide (h = some who) := by
  cases h with
  | none =>
    have : ¬ (-1 : Int) = who := by omega
    simp [this]
  | some x => by_cases e : x = who <;> simp [e]
theorem lkL_more (L : Nat) : lkL (L + 1) = lkL L ++ [(L : Int)] := by
  unfold lkL
  rw [List.range_succ, List.map_append]
  rfl
theorem filt_more (P : Int → Bool) (L : Nat) : (lkL (L + 1)).filter P = if P (L : Int) then (lkL L).filter P ++ [(L : Int)] else (lkL L).filter P := by
  rw [lkL_more, List.filter_append]
  by_cases h : P (L : Int) <;> simp [h]
theorem filt_len (P : Int → Bool) (L : Nat) : ((lkL L).filter P).length ≤ L := by
  have := List.length_filter_le P (lkL L)
  rw [lkL_len] at this
  exact this
set_option maxRecDepth 100000 in
set_option maxHeartbeats 4000000 in
theorem rholds (s : Syst) (pa : Option Addr) (pc : Nat) (ra : Option Addr) (rc : Nat) (la : Option Addr) (lc : Nat) (l : List Ev) (L i : Nat) (w : World) (hl : EvI w la lc l) (hi : i < l.length) (hn : l.length ≤ 40000) (hL : s.locks = (L : Int)) (hL6 : L ≤ 64) (hw : 0 ≤ (Tr.ev l i).who) :
    Calls Try.prog 21 #[.agg #[.slice pa s.progs.length pc, .slice ra s.rooms.length rc, .int .i64 s.groups, .int .i64 s.locks, .int .i64 s.cells], .slice la l.length lc, .int .i64 (i : Int)] w fun e w' => ∃ v, e = .returned v ∧ w'.ownsRow w.heap.size 3 1 v (hoL L (l.take i) (Tr.ev l i).who).length ((hoL L (l.take i) (Tr.ev l i).who).map (Value.int .i64)) ∧ Below w.heap.size w w' := by
  obtain ⟨POST, hP⟩ : ∃ Q : Ending → World → Prop, Q = fun e w' => ∃ v, e = .returned v ∧ w'.ownsRow w.heap.size 3 1 v (hoL L (l.take i) (Tr.ev l i).who).length ((hoL L (l.take i) (Tr.ev l i).who).map (Value.int .i64)) ∧ Below w.heap.size w w' := ⟨_, rfl⟩
  have HP := TW.hide hP
  rw [← hP]
  clear hP
  have HE := TW.hide hl
  have HLk := TW.hide hL
  have HHo : Hid (∀ (k : Nat) W, Below w.heap.size w W → Calls Try.prog 23 #[.slice la l.length lc, .int .i64 (i : Int), .int .i64 (k : Int)] W fun e w' => e = .returned (.int .i64 ((Tr.hdC (l.take i) (k : Int)).getD (-1))) ∧ Below W.heap.size W w') := fun k W hW => rholder la lc l i (k : Int) W (hl.below hW) (by omega) hn
  obtain ⟨b, off, who, op, a, va, sh, hla, hev, _, _, _, _, _⟩ := hl.get i hi
  rw [hev] at hw HP
  dsimp only at hw
  subst hla
  have HEv := TW.hide hev
  have hi1 : (i : Int) < (l.length : Int) := by omega
  have hi0 : (0 : Int) ≤ (i : Int) := by omega
  have HI := TW.hide hi
  have HW := TW.hide hw
  obtain ⟨PD, hPD⟩ : ∃ PD : Int → Bool, PD = fun x => decide (Tr.hdC (l.take i) x = some who) := ⟨_, rfl⟩
  have HPD : Hid (∀ x, PD x = decide (Tr.hdC (l.take i) x = some who)) := fun x => by rw [hPD]
  have HHL : Hid (hoL L (l.take i) who = (lkL L).filter PD) := by show _ = _; rw [hPD]; rfl
  have HFm := TW.hide (filt_more PD)
  have HFl := TW.hide (filt_len PD)
  clear hl hev hi hw hPD hL
  obtain ⟨i3, hi3, hz30, hz31, hz32⟩ := info_parts' intinfo
  have hA : Below w.heap.size w (w.alloc (.cells #[.slice pa s.progs.length pc, .slice ra s.rooms.length rc, .int .i64 s.groups, .int .i64 s.locks, .int .i64 s.cells] 25)) := (Below.refl _ _).alloc (Nat.le_refl _) _
  have N1 : Hid ((w.alloc (.cells #[.slice pa s.progs.length pc, .slice ra s.rooms.length rc, .int .i64 s.groups, .int .i64 s.locks, .int .i64 s.cells] 25)).heap[w.heap.size]? = some (.cells #[.slice pa s.progs.length pc, .slice ra s.rooms.length rc, .int .i64 s.groups, .int .i64 s.locks, .int .i64 s.cells] 25 (0, 0))) := heap_alloc_new w _
  have NB := TW.hide hA
  clear hA
  go_enter Try.func21, Try.ntmps21
  refine wp_seq_k fun K hK => ?_
  have HK := TW.hide hK
  clear hK
  go_wp2
  refine HK.out _ _ ?_
  clear HK K
  generalize w.alloc _ = X at *
  go_wp2
  go_loopw [7, 8] (fun v j wr => ∃ k : Nat, k ≤ L ∧ j = .int .i64 (k : Int) ∧ Hid (wr.ownsRow X.heap.size 3 1 v ((lkL k).filter PD).length (((lkL k).filter PD).map (Value.int .i64))) ∧ Hid (Below X.heap.size X wr)) (fun v j wr => L - (intOf j).toNat)
  case atStart => exact ⟨0, Nat.zero_le _, rfl, ⟨rfl, .inl ⟨rfl, rfl⟩⟩, TW.hide (Below.refl _ _)⟩
  case round =>
    obtain ⟨k, hk, rfl, HO, HB⟩ := hrel
    have s3 : wr.cell? ⟨w.heap.size, 3, none⟩ = some (.int .i64 s.locks) := keepC HB.out (blk_cell N1.out rfl)
    have HBw : Hid (Below w.heap.size w wr) := NB.out.trans (HB.out.mono NB.out.size)
    rw [HLk.out] at s3
    by_cases hlt : k < L
    · have hk1 : (k : Int) < (L : Int) := by omega
      have HLT := TW.hide hlt
      have hfl := HFl.out k
      have HFk := TW.hide (HFm.out k)
      have HQ : Hid (PD (k : Int) = ((Tr.hdC (l.take i) (k : Int)).getD (-1) == who)) := by show _ = _; rw [HPD.out, hd_eq _ _ HW.out]
      have HHk := TW.hide (HHo.out k)
      generalize (lkL k).filter PD = FK at *
      generalize (Tr.hdC (l.take i) (k : Int)).getD (-1) = hh at *
      obtain ⟨pb, hpb⟩ : ∃ pb, PD (k : Int) = pb := ⟨_, rfl⟩
      rw [hpb] at HQ HFk
      have x0 : wr.cell? ⟨b, off + i * 5, none⟩ = some (.int .i64 who) := by
        obtain ⟨b', off', who', op', a', va', sh', hla, hev, _, _, _, _, x0, _⟩ := (HE.out.below HBw.out).get i HI.out
        injection hla with hla
        injection hla with e1 e2
        subst e1 e2
        rw [HEv.out] at hev
        injection hev with e3
        rw [e3]
        exact x0
      clear hpb hlt
      have HX : Hid (Below wr.heap.size wr wr) := Below.refl _ _
      go_wp2
      refine wp_region_noPanic ?_
      refine RG.wp_region_L (fun Z => True) (fun Z => Below wr.heap.size wr Z) [] (by kernel_rfl) ?_
      refine RG.wpL_any fun Ya hY => ?_
      have HTa : Hid (Below wr.heap.size wr Ya) := by rw [hY]; exact below_drewN HX.out 1
      clear hY
      refine RG.wpL_take (fuel := 2) (a' := ?Aa) [0, 1, 2, 4, 5, 6, 7, 8] (by kernel_rfl) (by kernel_rfl) (fun _ _ _ _ _ h => h) HTa.out (fun _ => trivial) ?ra ?_
      case ra =>
        refine RG.RunsIf.weak (v := ?_) (by rfl) (by rfl) (fun Z hT => ?_) ?_
        rotate_left
        · go_simp
          rfl
        simp only [Act.put, List.setIfInBounds_toArray, List.set_cons_zero, List.set_cons_succ, List.getElem_toArray, List.getElem_cons_zero, List.getElem_cons_succ]
        refine RG.RunsIf.weak (v := ?_) (by rfl) (by rfl) (fun Z hT => ?_) ?_
        rotate_left
        · go_simp
          rfl
        simp only [Act.put, List.setIfInBounds_toArray, List.set_cons_zero, List.set_cons_succ, List.getElem_toArray, List.getElem_cons_zero, List.getElem_cons_succ]
        refine RG.RunsIf.weak (v := ?_) (by rfl) (by rfl) (fun Z hT => ?_) ?_
        rotate_left
        · go_simp
          rfl
        simp only [Act.put, List.setIfInBounds_toArray, List.set_cons_zero, List.set_cons_succ, List.getElem_toArray, List.getElem_cons_zero, List.getElem_cons_succ]
        refine RG.RunsIf.weak (v := ?_) (by rfl) (by rfl) (fun Z hT => ?_) ?_
        rotate_left
        · go_simp
          rfl
        simp only [Act.put, List.setIfInBounds_toArray, List.set_cons_zero, List.set_cons_succ, List.getElem_toArray, List.getElem_cons_zero, List.getElem_cons_succ]
        refine RG.RunsIf.weak (v := ?_) (by rfl) (by rfl) (fun Z hT => ?_) ?_
        rotate_left
        · go_simp
          rfl
        simp only [Act.put, List.setIfInBounds_toArray, List.set_cons_zero, List.set_cons_succ, List.getElem_toArray, List.getElem_cons_zero, List.getElem_cons_succ]
        refine RG.RunsIf.weak (v := ?_) (by rfl) (by rfl) (fun Z hT => ?_) ?_
        rotate_left
        · go_simp
          rfl
        simp only [Act.put, List.setIfInBounds_toArray, List.set_cons_zero, List.set_cons_succ, List.getElem_toArray, List.getElem_cons_zero, List.getElem_cons_succ]
        refine RG.RunsIf.weak (v := ?_) (by rfl) (by rfl) (fun Z hT => ?_) ?_
        rotate_left
        · go_simp
          rfl
        simp only [Act.put, List.setIfInBounds_toArray, List.set_cons_zero, List.set_cons_succ, List.getElem_toArray, List.getElem_cons_zero, List.getElem_cons_succ]
        refine RG.RunsIf.weak (v := .int .i64 who) (by rfl) (by rfl) (fun Z hT => ?_) ?_
        · have x0 := keepC hT x0
          go_simp
        simp only [Act.put, List.setIfInBounds_toArray, List.set_cons_zero, List.set_cons_succ, List.getElem_toArray, List.getElem_cons_zero, List.getElem_cons_succ]
        exact RG.RunsIf.nil
      refine RG.wpL_step (i := 3) (by kernel_rfl) (by rfl) (by rfl) (fun KX hK => ?_)
      have HK := TW.hide hK
      clear hK
      go_simp
      refine (HHk.out Ya (HBw.out.trans (HTa.out.mono HBw.out.size))).mono ?_
      rintro e_W1 W1 ⟨rfl, hb⟩
      have HT1 : Hid (Below wr.heap.size wr W1) := HTa.out.trans (hb.mono HTa.out.size)
      refine HK.out _ _ HT1.out (fun _ => trivial) ?_
      clear HK KX hb
      try simp only [Act.put, List.setIfInBounds_toArray, List.set_cons_zero, List.set_cons_succ, List.getElem_toArray, List.getElem_cons_zero, List.getElem_cons_succ]
      refine RG.wpL_take (fuel := 0) (a' := ?Aax) [9] (by kernel_rfl) (by kernel_rfl) (fun _ _ _ _ _ h => h) HT1.out (fun _ => trivial) ?rax ?_
      case rax =>
        refine RG.RunsIf.weak (v := ?_) (by rfl) (by rfl) (fun Z hT => ?_) ?_
        rotate_left
        · go_simp
          rfl
        simp only [Act.put, List.setIfInBounds_toArray, List.set_cons_zero, List.set_cons_succ, List.getElem_toArray, List.getElem_cons_zero, List.getElem_cons_succ]
        exact RG.RunsIf.nil
      refine RG.wpL_done (by kernel_rfl) ?_ _
      refine NoPanic.normal ?_
      have HB1 : Hid (Below w.heap.size w W1) := HBw.out.trans (HT1.out.mono HBw.out.size)
      have HX1 : Hid (Below X.heap.size X W1) := HB.out.trans (HT1.out.mono HB.out.size)
      have HO1 := TW.hide (own_belowI HO.out HT1.out)
      clear HTa HT1 HX HO x0 s3
      cases pb with
      | true =>
        have kq : (hh == who) = true := HQ.out.symm
        clear HQ
        go_wp2_with (at_builtin; refine wpList_append_own _ rfl _ _ 23 rfl X.heap.size 3 i3 (.int .i64 0) 1 8 Try.underlying23 hi3 hz30 hz31 hz32 rfl (by decide) _ FK.length (FK.map (Value.int .i64)) rfl (HO1.out.alloc _) ⟨W1.heap.size, 0, none⟩ 1 1 [.int .i64 (k : Int)] rfl rfl (cell_one_new _ _ _) (by simp [Value.oneCell']) (by unfold maxLen; omega) (by omega) (by have := HX1.out.size; simp; omega) ?_; (intro v5 w5 hown' hgrow _); have HO5 := TW.hide hown'; have HG5 := TW.hide hgrow; clear hown' hgrow)
        have HB5 : Hid (Below X.heap.size X w5) := (HX1.out.alloc HX1.out.size _).grown HG5.out (by have := HX1.out.size; simp; omega) (fun q hq => own_blkI HO1.out q hq)
        clear HG5
        have HX5 := HB5
        go_wp2
        go_roundw
        case rel =>
          refine ⟨k + 1, HLT.out, by go_num, ?_, HX5⟩
          rw [HFk.out, if_pos (by trivial)]
          show World.ownsRow _ _ _ _ _ _ _
          rw [List.length_append, List.map_append]
          exact HO5.out
        case measure => simp [intOf]; have := HLT.out; omega
      | false =>
        have kq : (hh == who) = false := HQ.out.symm
        clear HQ
        go_wp2
        go_roundw
        case rel =>
          refine ⟨k + 1, HLT.out, by go_num, ?_, HX1⟩
          rw [HFk.out, if_neg (by simp)]
          exact HO1
        case measure => simp [intOf]; have := HLT.out; omega
    · obtain rfl : k = L := by omega
      have kk : ¬ (k : Int) < (k : Int) := by omega
      have HPx : Hid (∀ v, wr.ownsRow X.heap.size 3 1 v ((lkL k).filter PD).length (((lkL k).filter PD).map (Value.int .i64)) → POST (.returned v) wr) := fun v hv => by
        rw [HP.out, HHL.out]
        exact ⟨_, rfl, own_base hv NB.out.size, HBw.out⟩
      have HR := TW.hide (HPx.out _ HO.out)
      clear HPx HO
      go_wp2
      first | exact HR.out | exact ⟨rfl, HR.out⟩
end LW
end Go.Proofs.Ytlnlkhbegdifkaa
