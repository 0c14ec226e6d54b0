/-
  The document's Guards.
-/
import Derived.Test.YtlnlkhbegdifkaaTkK
namespace Go.Proofs.Ytlnlkhbegdifkaa
open Go.RowKit
set_option linter.unusedVariables false
set_option linter.unusedSimpArgs false
namespace LW
open Mc
/-- Is a lock a guard of all events so far? -/
def gaB (l : List Ev) (cell : Int) (m : Nat) (x : Int) : Bool := (List.range m).all (fun j => gB l cell j x)
theorem gaB_succ (l : List Ev) (cell : Int) (m : Nat) (x : Int) : gaB l cell (m + 1) x = (gaB l cell m x && gB l cell m x) := by
  unfold gaB
  rw [List.range_succ, List.all_append]
  simp
set_option maxRecDepth 100000 in
set_option maxHeartbeats 4000000 in
theorem rtguards (s : Syst) (pa : Option Addr) (pc : Nat) (ra : Option Addr) (rc : Nat) (la : Option Addr) (lc : Nat) (l : List Ev) (cell : Int) (w : World) (hs : SyI w s pa ra) (hl : EvI w la lc l) :
    Calls Try.prog 14 #[.agg #[.slice pa s.progs.length pc, .slice ra s.rooms.length rc, .int .i64 s.groups, .int .i64 s.locks, .int .i64 s.cells], .slice la l.length lc, .int .i64 cell] w fun e w' => ∃ a c, e = .returned (.tuple #[.slice a (gdA s l cell).length c, .int .i64 (gdE s l cell)]) ∧ NR w' a (gdA s l cell) ∧ Below w.heap.size w w' := by
  obtain ⟨POST, hP⟩ : ∃ Q : Ending → World → Prop, Q = fun e w' => ∃ a c, e = .returned (.tuple #[.slice a (gdA s l cell).length c, .int .i64 (gdE s l cell)]) ∧ NR w' a (gdA s l cell) ∧ Below w.heap.size w w' := ⟨_, rfl⟩
  obtain ⟨va, vn, ve, hV⟩ : ∃ a n e, Tr.vR s l = (a, n, e) := ⟨_, _, _, rfl⟩
  have HRd : Hid (∀ W, Below w.heap.size w W → Calls Try.prog 7 #[.agg #[.slice pa s.progs.length pc, .slice ra s.rooms.length rc, .int .i64 s.groups, .int .i64 s.locks, .int .i64 s.cells], .slice la l.length lc] W fun e w' => e = .returned (.tuple #[.int .i64 va, .int .i64 vn, .int .i64 ve]) ∧ Below W.heap.size W w') := fun W hW => (rtvalid s pa pc ra rc la lc l W (hs.below hW) (hl.below hW)).mono (fun e w' h => by rw [hV] at h; exact h)
  have HOk : Hid (ve = 0 → Ok s ∧ l.length ≤ 40000 ∧ Tr.Gd s l l.length) := fun h => by
    have h2 := Tr.vR_ok (s := s) (l := l) (by rw [hV]; exact h)
    exact ⟨h2.1, h2.2.1, h2.2.2.1⟩
  have HPe : Hid (ve ≠ 0 → ∀ W, Below w.heap.size w W → POST (.returned (.tuple #[.slice none 0 0, .int .i64 ve])) W) := fun h W hW => by
    rw [hP]
    have h1 : gdE s l cell = ve := by unfold gdE; rw [hV]; exact if_neg h
    have h2 : gdA s l cell = [] := by unfold gdA; rw [h1, if_neg h]
    rw [h1, h2]
    exact ⟨none, 0, rfl, .inl rfl, hW⟩
  have HPa : Hid (ve = 0 → ¬ (0 ≤ cell ∧ cell < s.cells) → ∀ W, Below w.heap.size w W → POST (.returned (.tuple #[.slice none 0 0, .int .i64 1])) W) := fun h hi W hW => by
    rw [hP]
    have h1 : gdE s l cell = 1 := by unfold gdE; rw [hV]; dsimp only; rw [if_pos h, if_neg hi]
    have h2 : gdA s l cell = [] := by unfold gdA; rw [h1]; exact if_neg (by decide)
    rw [h1, h2]
    exact ⟨none, 0, rfl, .inl rfl, hW⟩
  have HPo : Hid (ve = 0 → 0 ≤ cell ∧ cell < s.cells → ∀ W B v, W.ownsRow B 3 1 v ((lkL s.locks.toNat).filter (fun x => guT l cell l.length && gaB l cell l.length x)).length (((lkL s.locks.toNat).filter (fun x => guT l cell l.length && gaB l cell l.length x)).map (Value.int .i64)) → Below w.heap.size w W → POST (.returned (.tuple #[v, .int .i64 0])) W) := fun h hi W B v hN hW => by
    rw [hP]
    have h1 : gdE s l cell = 0 := by unfold gdE; rw [hV]; dsimp only; rw [if_pos h, if_pos hi]
    have h2 : gdA s l cell = (lkL s.locks.toNat).filter (fun x => guT l cell l.length && gaB l cell l.length x) := by
      unfold gdA
      rw [h1, if_pos rfl]
      cases ht : guT l cell l.length with
      | true =>
        rw [if_pos rfl]
        unfold guL gaB
        congr 1
      | false =>
        rw [if_neg (by simp)]
        symm
        rw [List.filter_eq_nil_iff]
        intro x _
        simp
    rw [h1, h2]
    obtain ⟨a, c, rfl, hr⟩ := nr_own' hN
    exact ⟨a, c, rfl, hr, hW⟩
  rw [← hP]
  have HEw := TW.hide hl
  clear hP hs hl hV
  have hA : Below w.heap.size w (w.alloc (.cells #[.slice pa s.progs.length pc, .slice ra s.rooms.length rc, .int .i64 s.groups, .int .i64 s.locks, .int .i64 s.cells] 25)) := (Below.refl _ _).alloc (Nat.le_refl _) _
  have N1 : Hid ((w.alloc (.cells #[.slice pa s.progs.length pc, .slice ra s.rooms.length rc, .int .i64 s.groups, .int .i64 s.locks, .int .i64 s.cells] 25)).heap[w.heap.size]? = some (.cells #[.slice pa s.progs.length pc, .slice ra s.rooms.length rc, .int .i64 s.groups, .int .i64 s.locks, .int .i64 s.cells] 25 (0, 0))) := heap_alloc_new w _
  have NB := TW.hide hA
  clear hA
  go_enter Try.func14, Try.ntmps14
  refine wp_seq_k fun K hK => ?_
  have HK := TW.hide hK
  clear hK
  go_wp2
  refine HK.out _ _ ?_
  clear HK K
  generalize w.alloc _ = X at *
  obtain ⟨s0, s1, s2, s3, s4⟩ := cellsY5 N1.out
  go_wp2_with fail
  refine (HRd.out X NB.out).mono ?_
  rintro e1 W1 ⟨rfl, hb⟩
  have NB1 : Hid (Below w.heap.size w W1) := NB.out.trans (hb.mono NB.out.size)
  have NS := TW.hide (blk_keep N1.out hb)
  clear hb NB N1 s0 s1 s2 s3 s4 HRd
  obtain ⟨s0, s1, s2, s3, s4⟩ := cellsY5 NS.out
  by_cases he : ve = 0
  · obtain ⟨ho, hn, hg⟩ := HOk.out he
    obtain ⟨L, hL⟩ : ∃ L : Nat, s.locks = (L : Int) := ⟨s.locks.toNat, by have := ho.l1; omega⟩
    have hL6 : L ≤ 64 := by have := ho.l1; omega
    have hLt : s.locks.toNat = L := by omega
    have HIn : Hid (∀ W, Calls Try.prog 20 #[.int .i64 cell, .int .i64 s.cells] W fun e w' => e = .returned (.bool (decide (0 ≤ cell ∧ cell < s.cells))) ∧ W = w') := fun W => rinside cell _ W
    have HHo : Hid (∀ (m k : Nat), m < l.length → ∀ W, Below w.heap.size w W → Calls Try.prog 23 #[.slice la l.length lc, .int .i64 (m : Int), .int .i64 (k : Int)] W fun e w' => e = .returned (.int .i64 ((Tr.hdC (l.take m) (k : Int)).getD (-1))) ∧ Below W.heap.size W w') := fun m k hm W hW => rholder la lc l m (k : Int) W (HEw.out.below hW) (by omega) hn
    have HW0 : Hid (∀ m, m < l.length → 0 ≤ (Tr.ev l m).who) := fun m hm => (hg m hm).w0
    have HPa' := TW.hide (HPa.out he)
    have HPo' := TW.hide (HPo.out he)
    rw [hLt] at HPo'
    have HLk := TW.hide hL
    have HLn := TW.hide hn
    subst he
    clear ho hn hg hL HOk HPe HPa HPo hLt
    go_wp2_with fail
    refine (HIn.out W1).mono ?_
    rintro e3 W3 ⟨rfl, rfl⟩
    by_cases hi : 0 ≤ cell ∧ cell < s.cells
    · have HPk := TW.hide (HPo'.out hi)
      have kd : (decide (0 ≤ cell ∧ cell < s.cells)) = true := decide_eq_true hi
      rw [kd]
      clear hi kd HPo' HPa' HIn s0 s1 s2 s3 s4
      obtain ⟨PG, hPG⟩ : ∃ PG : Int → Bool, PG = fun x => guT l cell l.length && gaB l cell l.length x := ⟨_, rfl⟩
      have HPG : Hid (∀ x, PG x = (guT l cell l.length && gaB l cell l.length x)) := fun x => by rw [hPG]
      rw [← hPG] at HPk
      have HFm := TW.hide (filt_more PG)
      have HFl := TW.hide (filt_len PG)
      clear hPG
      obtain ⟨i3, hi3, hz30, hz31, hz32⟩ := info_parts' intinfo
      go_wp2
      go_loopw [11, 12] (fun v j wr => ∃ k : Nat, k ≤ L ∧ j = .int .i64 (k : Int) ∧ Hid (wr.ownsRow W1.heap.size 3 1 v ((lkL k).filter PG).length (((lkL k).filter PG).map (Value.int .i64))) ∧ Hid (Below W1.heap.size W1 wr)) (fun v j wr => L - (intOf j).toNat)
      case atStart => exact ⟨0, Nat.zero_le _, rfl, ⟨rfl, .inl ⟨rfl, rfl⟩⟩, TW.hide (Below.refl _ _)⟩
      case round =>
        obtain ⟨k, hk, rfl, HO, HB⟩ := hrel
        have s3 : wr.cell? ⟨w.heap.size, 3, none⟩ = some (.int .i64 s.locks) := keepC HB.out (blk_cell NS.out rfl)
        rw [HLk.out] at s3
        by_cases hlt : k < L
        · have hk1 : (k : Int) < (L : Int) := by omega
          have HLT0 := TW.hide hlt
          have hfl := HFl.out k
          have HFk := TW.hide (HFm.out k)
          generalize (lkL k).filter PG = FK at *
          obtain ⟨pb, hpb⟩ : ∃ pb, PG (k : Int) = pb := ⟨_, rfl⟩
          have HPB : Hid ((guT l cell l.length && gaB l cell l.length (k : Int)) = pb) := by show _ = _; rw [← HPG.out, hpb]
          rw [hpb] at HFk
          clear hpb hlt
          refine wp_seq_k fun K hK => ?_
          have HK := TW.hide hK
          clear hK
          go_wp2
          refine HK.out _ _ ?_
          clear HK K s3
          rename World => wo
          have HBo : Hid (Below w.heap.size w wo) := NB1.out.trans (HB.out.mono NB1.out.size)
          refine wp_seq_k fun K hK => ?_
          have HK := TW.hide hK
          clear hK
          go_wp2
          go_loopw [13, 14, 15] (fun sv av iv wr => ∃ m : Nat, m ≤ l.length ∧ iv = .int .i64 (m : Int) ∧ sv = .bool (guT l cell m) ∧ av = .bool (gaB l cell m (k : Int)) ∧ Hid (Below wo.heap.size wo wr)) (fun sv av iv wr => l.length - (intOf iv).toNat)
          case atStart => exact ⟨0, Nat.zero_le _, rfl, rfl, rfl, TW.hide (Below.refl _ _)⟩
          case round =>
            obtain ⟨m, hm, rfl, rfl, rfl, HBi⟩ := hrel
            have HBw : Hid (Below w.heap.size w wr) := HBo.out.trans (HBi.out.mono HBo.out.size)
            by_cases hlt : m < l.length
            · have HLT := TW.hide hlt
              have hk4 : m + 1 ≤ 40000 := by have := HLn.out; omega
              have HHk : Hid (∀ W, Below wr.heap.size wr W → Calls Try.prog 23 #[.slice la l.length lc, .int .i64 (m : Int), .int .i64 (k : Int)] W fun e w' => e = .returned (.int .i64 ((Tr.hdC (l.take m) (k : Int)).getD (-1))) ∧ Below W.heap.size W w') := fun W hW => HHo.out m k hlt W (HBw.out.trans (hW.mono HBw.out.size))
              obtain ⟨b, off, who, op, a, va', sh, hla, hev, _, _, _, _, x0, x1, x2, x3, x4⟩ := (HEw.out.below HBw.out).get m hlt
              have hw0 : 0 ≤ who := by have := HW0.out m hlt; rw [hev] at this; exact this
              subst hla
              have hk1 : (m : Int) < (l.length : Int) := by omega
              have hk0 : (0 : Int) ≤ (m : Int) := by omega
              have HTs := TW.hide (guT_succ l cell m)
              have HAs := TW.hide (gaB_succ l cell m (k : Int))
              have HAc : Hid (op = 12 ∨ op = 13 → a = cell → acB (Tr.ev l m) cell = true) := fun h1 h2 => by rw [hev]; unfold acB; simp [h1, h2]
              have HAn : Hid (¬ ((op = 12 ∨ op = 13) ∧ a = cell) → acB (Tr.ev l m) cell = false) := fun h1 => by rw [hev]; unfold acB; simpa using h1
              have HGa : Hid (op = 12 ∨ op = 13 → a = cell → gB l cell m (k : Int) = ((Tr.hdC (l.take m) (k : Int)).getD (-1) == who)) := fun h1 h2 => by unfold gB; rw [HAc.out h1 h2, hev, hd_eq _ _ hw0]; rfl
              have HGf : Hid (op = 9 → a = (k : Int) → gB l cell m (k : Int) = ((Tr.hdC (l.take m) (k : Int)).getD (-1) == who)) := fun h1 h2 => by unfold gB; rw [HAn.out (by omega), hev, hd_eq _ _ hw0]; simp [h1, h2]
              have HGn : Hid (¬ ((op = 12 ∨ op = 13) ∧ a = cell) → ¬ (op = 9 ∧ a = (k : Int)) → gB l cell m (k : Int) = true) := fun h1 h2 => by unfold gB; rw [HAn.out h1, hev, if_neg (by simp), if_neg (fun h => h2 ⟨h.1, h.2⟩)]
              have HX : Hid (Below wr.heap.size wr wr) := Below.refl _ _
              clear hlt hev hw0
              generalize (Tr.hdC (l.take m) (k : Int)).getD (-1) = hh at *
              generalize guT l cell m = sv at *
              generalize gaB l cell m (k : Int) = al at *
              by_cases hc : a = cell
              · by_cases h12 : op = 12
                · have k12 : (op == 12) = true := by simp [h12]
                  have k9 : (op == 9) = false := by simp; omega
                  have kc : (a == cell) = true := by simp [hc]
                  have HT' : Hid (guT l cell (m + 1) = true) := by show _ = _; rw [HTs.out, HAc.out (by omega) hc, Bool.or_true]
                  have HA' : Hid (gaB l cell (m + 1) (k : Int) = (al && (hh == who))) := by show _ = _; rw [HAs.out, HGa.out (by omega) hc]
                  clear h12 hc HTs HAs HGa HGf HGn HAc HAn
                  cases al with
                  | true =>
                    go_wp2
                    refine wp_region_noPanic ?_
                    refine RG.wp_region_L (fun Z => True) (fun Z => Below wr.heap.size wr Z) [] (by kernel_rfl) ?_
                    refine RG.wpL_any fun Ya12 hY => ?_
                    have HTa12 : Hid (Below wr.heap.size wr Ya12) := by rw [hY]; exact below_drewN HX.out 1
                    clear hY
                    refine RG.wpL_take (fuel := 4) (a' := ?Aa12) [0, 1, 2, 3, 4, 6, 7, 8, 9, 10] (by kernel_rfl) (by kernel_rfl) (fun _ _ _ _ _ h => h) HTa12.out (fun _ => trivial) ?ra12 ?_
                    case ra12 =>
                      refine RG.RunsIf.weak (v := ?_) (by rfl) (by rfl) (fun Z hT => ?_) ?_
                      rotate_left
                      · go_simp
                        rfl
                      simp only [Act.put, List.setIfInBounds_toArray, List.set_cons_zero, List.set_cons_succ, List.getElem_toArray, List.getElem_cons_zero, List.getElem_cons_succ]
                      refine RG.RunsIf.weak (v := ?_) (by rfl) (by rfl) (fun Z hT => ?_) ?_
                      rotate_left
                      · go_simp
                        rfl
                      simp only [Act.put, List.setIfInBounds_toArray, List.set_cons_zero, List.set_cons_succ, List.getElem_toArray, List.getElem_cons_zero, List.getElem_cons_succ]
                      refine RG.RunsIf.weak (v := ?_) (by rfl) (by rfl) (fun Z hT => ?_) ?_
                      rotate_left
                      · go_simp
                        rfl
                      simp only [Act.put, List.setIfInBounds_toArray, List.set_cons_zero, List.set_cons_succ, List.getElem_toArray, List.getElem_cons_zero, List.getElem_cons_succ]
                      refine RG.RunsIf.weak (v := ?_) (by rfl) (by rfl) (fun Z hT => ?_) ?_
                      rotate_left
                      · go_simp
                        rfl
                      simp only [Act.put, List.setIfInBounds_toArray, List.set_cons_zero, List.set_cons_succ, List.getElem_toArray, List.getElem_cons_zero, List.getElem_cons_succ]
                      refine RG.RunsIf.weak (v := ?_) (by rfl) (by rfl) (fun Z hT => ?_) ?_
                      rotate_left
                      · go_simp
                        rfl
                      simp only [Act.put, List.setIfInBounds_toArray, List.set_cons_zero, List.set_cons_succ, List.getElem_toArray, List.getElem_cons_zero, List.getElem_cons_succ]
                      refine RG.RunsIf.weak (v := ?_) (by rfl) (by rfl) (fun Z hT => ?_) ?_
                      rotate_left
                      · go_simp
                        rfl
                      simp only [Act.put, List.setIfInBounds_toArray, List.set_cons_zero, List.set_cons_succ, List.getElem_toArray, List.getElem_cons_zero, List.getElem_cons_succ]
                      refine RG.RunsIf.weak (v := ?_) (by rfl) (by rfl) (fun Z hT => ?_) ?_
                      rotate_left
                      · go_simp
                        rfl
                      simp only [Act.put, List.setIfInBounds_toArray, List.set_cons_zero, List.set_cons_succ, List.getElem_toArray, List.getElem_cons_zero, List.getElem_cons_succ]
                      refine RG.RunsIf.weak (v := ?_) (by rfl) (by rfl) (fun Z hT => ?_) ?_
                      rotate_left
                      · go_simp
                        rfl
                      simp only [Act.put, List.setIfInBounds_toArray, List.set_cons_zero, List.set_cons_succ, List.getElem_toArray, List.getElem_cons_zero, List.getElem_cons_succ]
                      refine RG.RunsIf.weak (v := ?_) (by rfl) (by rfl) (fun Z hT => ?_) ?_
                      rotate_left
                      · go_simp
                        rfl
                      simp only [Act.put, List.setIfInBounds_toArray, List.set_cons_zero, List.set_cons_succ, List.getElem_toArray, List.getElem_cons_zero, List.getElem_cons_succ]
                      refine RG.RunsIf.weak (v := .int .i64 who) (by rfl) (by rfl) (fun Z hT => ?_) ?_
                      · have x0 := keepC hT x0
                        go_simp
                      simp only [Act.put, List.setIfInBounds_toArray, List.set_cons_zero, List.set_cons_succ, List.getElem_toArray, List.getElem_cons_zero, List.getElem_cons_succ]
                      exact RG.RunsIf.nil
                    refine RG.wpL_stepw (i := 5) (by kernel_rfl) (by rfl) (by rfl) (fun KX hK => ?_)
                    have HK := TW.hide hK
                    clear hK
                    go_simp
                    refine (HHk.out Ya12 HTa12.out).mono ?_
                    rintro e_W2_ W2_ ⟨rfl, hb⟩
                    have HT1_ : Hid (Below wr.heap.size wr W2_) := HTa12.out.trans (hb.mono HTa12.out.size)
                    refine HK.out _ _ HT1_.out (fun _ => trivial) ?_
                    clear HK KX hb
                    try simp only [Act.put, List.setIfInBounds_toArray, List.set_cons_zero, List.set_cons_succ, List.getElem_toArray, List.getElem_cons_zero, List.getElem_cons_succ]
                    refine RG.wpL_take (fuel := 0) (a' := ?Aa12x) [11, 12, 13] (by kernel_rfl) (by kernel_rfl) (fun _ _ _ _ _ h => h) HT1_.out (fun _ => trivial) ?ra12x ?_
                    case ra12x =>
                      refine RG.RunsIf.weak (v := ?_) (by rfl) (by rfl) (fun Z hT => ?_) ?_
                      rotate_left
                      · go_simp
                        rfl
                      simp only [Act.put, List.setIfInBounds_toArray, List.set_cons_zero, List.set_cons_succ, List.getElem_toArray, List.getElem_cons_zero, List.getElem_cons_succ]
                      refine RG.RunsIf.weak (v := ?_) (by rfl) (by rfl) (fun Z hT => ?_) ?_
                      rotate_left
                      · go_simp
                        rfl
                      simp only [Act.put, List.setIfInBounds_toArray, List.set_cons_zero, List.set_cons_succ, List.getElem_toArray, List.getElem_cons_zero, List.getElem_cons_succ]
                      refine RG.RunsIf.weak (v := ?_) (by rfl) (by rfl) (fun Z hT => ?_) ?_
                      rotate_left
                      · go_simp
                        rfl
                      simp only [Act.put, List.setIfInBounds_toArray, List.set_cons_zero, List.set_cons_succ, List.getElem_toArray, List.getElem_cons_zero, List.getElem_cons_succ]
                      exact RG.RunsIf.nil
                    refine RG.wpL_done (by kernel_rfl) ?_ _
                    refine NoPanic.normal ?_
                    have x1_ := keepC HT1_.out x1
                    have x2_ := keepC HT1_.out x2
                    have HB2 : Hid (Below wo.heap.size wo W2_) := HBi.out.trans (HT1_.out.mono HBi.out.size)
                    clear x0 x1 x2 x3 x4
                    go_wp2
                    go_roundw
                    case rel => exact ⟨m + 1, HLT.out, by go_num, by rw [HT'.out], by rw [HA'.out, Bool.true_and], HB2⟩
                    case measure => simp [intOf]; have := HLT.out; omega
                  | false =>
                    go_wp2
                    go_quiet (fail)
                    have HQ : Hid (Below wo.heap.size wo (wr.drewN nq)) := below_drewN HBi.out _
                    go_wp2
                    go_roundw
                    case rel => exact ⟨m + 1, HLT.out, by go_num, by rw [HT'.out], by rw [HA'.out, Bool.false_and], HQ⟩
                    case measure => simp [intOf]; have := HLT.out; omega
                · by_cases h13 : op = 13
                  · have k12 : (op == 12) = false := by simp; omega
                    have k13 : (op == 13) = true := by simp [h13]
                    have k9 : (op == 9) = false := by simp; omega
                    have kc : (a == cell) = true := by simp [hc]
                    have HT' : Hid (guT l cell (m + 1) = true) := by show _ = _; rw [HTs.out, HAc.out (by omega) hc, Bool.or_true]
                    have HA' : Hid (gaB l cell (m + 1) (k : Int) = (al && (hh == who))) := by show _ = _; rw [HAs.out, HGa.out (by omega) hc]
                    clear h13 hc HTs HAs HGa HGf HGn HAc HAn
                    cases al with
                    | true =>
                      go_wp2
                      refine wp_region_noPanic ?_
                      refine RG.wp_region_L (fun Z => True) (fun Z => Below wr.heap.size wr Z) [] (by kernel_rfl) ?_
                      refine RG.wpL_any fun Ya13 hY => ?_
                      have HTa13 : Hid (Below wr.heap.size wr Ya13) := by rw [hY]; exact below_drewN HX.out 1
                      clear hY
                      refine RG.wpL_take (fuel := 4) (a' := ?Aa13) [0, 1, 2, 3, 4, 6, 7, 8, 9, 10] (by kernel_rfl) (by kernel_rfl) (fun _ _ _ _ _ h => h) HTa13.out (fun _ => trivial) ?ra13 ?_
                      case ra13 =>
                        refine RG.RunsIf.weak (v := ?_) (by rfl) (by rfl) (fun Z hT => ?_) ?_
                        rotate_left
                        · go_simp
                          rfl
                        simp only [Act.put, List.setIfInBounds_toArray, List.set_cons_zero, List.set_cons_succ, List.getElem_toArray, List.getElem_cons_zero, List.getElem_cons_succ]
                        refine RG.RunsIf.weak (v := ?_) (by rfl) (by rfl) (fun Z hT => ?_) ?_
                        rotate_left
                        · go_simp
                          rfl
                        simp only [Act.put, List.setIfInBounds_toArray, List.set_cons_zero, List.set_cons_succ, List.getElem_toArray, List.getElem_cons_zero, List.getElem_cons_succ]
                        refine RG.RunsIf.weak (v := ?_) (by rfl) (by rfl) (fun Z hT => ?_) ?_
                        rotate_left
                        · go_simp
                          rfl
                        simp only [Act.put, List.setIfInBounds_toArray, List.set_cons_zero, List.set_cons_succ, List.getElem_toArray, List.getElem_cons_zero, List.getElem_cons_succ]
                        refine RG.RunsIf.weak (v := ?_) (by rfl) (by rfl) (fun Z hT => ?_) ?_
                        rotate_left
                        · go_simp
                          rfl
                        simp only [Act.put, List.setIfInBounds_toArray, List.set_cons_zero, List.set_cons_succ, List.getElem_toArray, List.getElem_cons_zero, List.getElem_cons_succ]
                        refine RG.RunsIf.weak (v := ?_) (by rfl) (by rfl) (fun Z hT => ?_) ?_
                        rotate_left
                        · go_simp
                          rfl
                        simp only [Act.put, List.setIfInBounds_toArray, List.set_cons_zero, List.set_cons_succ, List.getElem_toArray, List.getElem_cons_zero, List.getElem_cons_succ]
                        refine RG.RunsIf.weak (v := ?_) (by rfl) (by rfl) (fun Z hT => ?_) ?_
                        rotate_left
                        · go_simp
                          rfl
                        simp only [Act.put, List.setIfInBounds_toArray, List.set_cons_zero, List.set_cons_succ, List.getElem_toArray, List.getElem_cons_zero, List.getElem_cons_succ]
                        refine RG.RunsIf.weak (v := ?_) (by rfl) (by rfl) (fun Z hT => ?_) ?_
                        rotate_left
                        · go_simp
                          rfl
                        simp only [Act.put, List.setIfInBounds_toArray, List.set_cons_zero, List.set_cons_succ, List.getElem_toArray, List.getElem_cons_zero, List.getElem_cons_succ]
                        refine RG.RunsIf.weak (v := ?_) (by rfl) (by rfl) (fun Z hT => ?_) ?_
                        rotate_left
                        · go_simp
                          rfl
                        simp only [Act.put, List.setIfInBounds_toArray, List.set_cons_zero, List.set_cons_succ, List.getElem_toArray, List.getElem_cons_zero, List.getElem_cons_succ]
                        refine RG.RunsIf.weak (v := ?_) (by rfl) (by rfl) (fun Z hT => ?_) ?_
                        rotate_left
                        · go_simp
                          rfl
                        simp only [Act.put, List.setIfInBounds_toArray, List.set_cons_zero, List.set_cons_succ, List.getElem_toArray, List.getElem_cons_zero, List.getElem_cons_succ]
                        refine RG.RunsIf.weak (v := .int .i64 who) (by rfl) (by rfl) (fun Z hT => ?_) ?_
                        · have x0 := keepC hT x0
                          go_simp
                        simp only [Act.put, List.setIfInBounds_toArray, List.set_cons_zero, List.set_cons_succ, List.getElem_toArray, List.getElem_cons_zero, List.getElem_cons_succ]
                        exact RG.RunsIf.nil
                      refine RG.wpL_stepw (i := 5) (by kernel_rfl) (by rfl) (by rfl) (fun KX hK => ?_)
                      have HK := TW.hide hK
                      clear hK
                      go_simp
                      refine (HHk.out Ya13 HTa13.out).mono ?_
                      rintro e_W2_ W2_ ⟨rfl, hb⟩
                      have HT1_ : Hid (Below wr.heap.size wr W2_) := HTa13.out.trans (hb.mono HTa13.out.size)
                      refine HK.out _ _ HT1_.out (fun _ => trivial) ?_
                      clear HK KX hb
                      try simp only [Act.put, List.setIfInBounds_toArray, List.set_cons_zero, List.set_cons_succ, List.getElem_toArray, List.getElem_cons_zero, List.getElem_cons_succ]
                      refine RG.wpL_take (fuel := 0) (a' := ?Aa13x) [11, 12, 13] (by kernel_rfl) (by kernel_rfl) (fun _ _ _ _ _ h => h) HT1_.out (fun _ => trivial) ?ra13x ?_
                      case ra13x =>
                        refine RG.RunsIf.weak (v := ?_) (by rfl) (by rfl) (fun Z hT => ?_) ?_
                        rotate_left
                        · go_simp
                          rfl
                        simp only [Act.put, List.setIfInBounds_toArray, List.set_cons_zero, List.set_cons_succ, List.getElem_toArray, List.getElem_cons_zero, List.getElem_cons_succ]
                        refine RG.RunsIf.weak (v := ?_) (by rfl) (by rfl) (fun Z hT => ?_) ?_
                        rotate_left
                        · go_simp
                          rfl
                        simp only [Act.put, List.setIfInBounds_toArray, List.set_cons_zero, List.set_cons_succ, List.getElem_toArray, List.getElem_cons_zero, List.getElem_cons_succ]
                        refine RG.RunsIf.weak (v := ?_) (by rfl) (by rfl) (fun Z hT => ?_) ?_
                        rotate_left
                        · go_simp
                          rfl
                        simp only [Act.put, List.setIfInBounds_toArray, List.set_cons_zero, List.set_cons_succ, List.getElem_toArray, List.getElem_cons_zero, List.getElem_cons_succ]
                        exact RG.RunsIf.nil
                      refine RG.wpL_done (by kernel_rfl) ?_ _
                      refine NoPanic.normal ?_
                      have x1_ := keepC HT1_.out x1
                      have x2_ := keepC HT1_.out x2
                      have HB2 : Hid (Below wo.heap.size wo W2_) := HBi.out.trans (HT1_.out.mono HBi.out.size)
                      clear x0 x1 x2 x3 x4
                      go_wp2
                      go_roundw
                      case rel => exact ⟨m + 1, HLT.out, by go_num, by rw [HT'.out], by rw [HA'.out, Bool.true_and], HB2⟩
                      case measure => simp [intOf]; have := HLT.out; omega
                    | false =>
                      go_wp2
                      go_quiet (fail)
                      have HQ : Hid (Below wo.heap.size wo (wr.drewN nq)) := below_drewN HBi.out _
                      go_wp2
                      go_roundw
                      case rel => exact ⟨m + 1, HLT.out, by go_num, by rw [HT'.out], by rw [HA'.out, Bool.false_and], HQ⟩
                      case measure => simp [intOf]; have := HLT.out; omega
                  · have k12 : (op == 12) = false := by simp; omega
                    have k13 : (op == 13) = false := by simp; omega
                    have HT' : Hid (guT l cell (m + 1) = sv) := by show _ = _; rw [HTs.out, HAn.out (fun h => by omega), Bool.or_false]
                    by_cases h9 : op = 9
                    · have k9 : (op == 9) = true := by simp [h9]
                      have k12 : (op == 12) = false := by simp; omega
                      have k13 : (op == 13) = false := by simp; omega
                      by_cases hak : a = (k : Int)
                      · have ka : (a == (k : Int)) = true := by simp [hak]
                        have HA' : Hid (gaB l cell (m + 1) (k : Int) = (al && (hh == who))) := by show _ = _; rw [HAs.out, HGf.out h9 hak]
                        clear h9 hak HTs HAs HGa HGf HGn HAc HAn
                        cases al with
                        | true =>
                          go_wp2
                          refine wp_region_noPanic ?_
                          refine RG.wp_region_L (fun Z => True) (fun Z => Below wr.heap.size wr Z) [] (by kernel_rfl) ?_
                          refine RG.wpL_any fun Ynz29 hY => ?_
                          have HTnz29 : Hid (Below wr.heap.size wr Ynz29) := by rw [hY]; exact below_drewN HX.out 1
                          clear hY
                          refine RG.wpL_take (fuel := 4) (a' := ?Anz29) [0, 1, 2, 3, 4, 6, 7, 8, 9, 10] (by kernel_rfl) (by kernel_rfl) (fun _ _ _ _ _ h => h) HTnz29.out (fun _ => trivial) ?rnz29 ?_
                          case rnz29 =>
                            refine RG.RunsIf.weak (v := ?_) (by rfl) (by rfl) (fun Z hT => ?_) ?_
                            rotate_left
                            · go_simp
                              rfl
                            simp only [Act.put, List.setIfInBounds_toArray, List.set_cons_zero, List.set_cons_succ, List.getElem_toArray, List.getElem_cons_zero, List.getElem_cons_succ]
                            refine RG.RunsIf.weak (v := ?_) (by rfl) (by rfl) (fun Z hT => ?_) ?_
                            rotate_left
                            · go_simp
                              rfl
                            simp only [Act.put, List.setIfInBounds_toArray, List.set_cons_zero, List.set_cons_succ, List.getElem_toArray, List.getElem_cons_zero, List.getElem_cons_succ]
                            refine RG.RunsIf.weak (v := ?_) (by rfl) (by rfl) (fun Z hT => ?_) ?_
                            rotate_left
                            · go_simp
                              rfl
                            simp only [Act.put, List.setIfInBounds_toArray, List.set_cons_zero, List.set_cons_succ, List.getElem_toArray, List.getElem_cons_zero, List.getElem_cons_succ]
                            refine RG.RunsIf.weak (v := ?_) (by rfl) (by rfl) (fun Z hT => ?_) ?_
                            rotate_left
                            · go_simp
                              rfl
                            simp only [Act.put, List.setIfInBounds_toArray, List.set_cons_zero, List.set_cons_succ, List.getElem_toArray, List.getElem_cons_zero, List.getElem_cons_succ]
                            refine RG.RunsIf.weak (v := ?_) (by rfl) (by rfl) (fun Z hT => ?_) ?_
                            rotate_left
                            · go_simp
                              rfl
                            simp only [Act.put, List.setIfInBounds_toArray, List.set_cons_zero, List.set_cons_succ, List.getElem_toArray, List.getElem_cons_zero, List.getElem_cons_succ]
                            refine RG.RunsIf.weak (v := ?_) (by rfl) (by rfl) (fun Z hT => ?_) ?_
                            rotate_left
                            · go_simp
                              rfl
                            simp only [Act.put, List.setIfInBounds_toArray, List.set_cons_zero, List.set_cons_succ, List.getElem_toArray, List.getElem_cons_zero, List.getElem_cons_succ]
                            refine RG.RunsIf.weak (v := ?_) (by rfl) (by rfl) (fun Z hT => ?_) ?_
                            rotate_left
                            · go_simp
                              rfl
                            simp only [Act.put, List.setIfInBounds_toArray, List.set_cons_zero, List.set_cons_succ, List.getElem_toArray, List.getElem_cons_zero, List.getElem_cons_succ]
                            refine RG.RunsIf.weak (v := ?_) (by rfl) (by rfl) (fun Z hT => ?_) ?_
                            rotate_left
                            · go_simp
                              rfl
                            simp only [Act.put, List.setIfInBounds_toArray, List.set_cons_zero, List.set_cons_succ, List.getElem_toArray, List.getElem_cons_zero, List.getElem_cons_succ]
                            refine RG.RunsIf.weak (v := ?_) (by rfl) (by rfl) (fun Z hT => ?_) ?_
                            rotate_left
                            · go_simp
                              rfl
                            simp only [Act.put, List.setIfInBounds_toArray, List.set_cons_zero, List.set_cons_succ, List.getElem_toArray, List.getElem_cons_zero, List.getElem_cons_succ]
                            refine RG.RunsIf.weak (v := .int .i64 who) (by rfl) (by rfl) (fun Z hT => ?_) ?_
                            · have x0 := keepC hT x0
                              go_simp
                            simp only [Act.put, List.setIfInBounds_toArray, List.set_cons_zero, List.set_cons_succ, List.getElem_toArray, List.getElem_cons_zero, List.getElem_cons_succ]
                            exact RG.RunsIf.nil
                          refine RG.wpL_stepw (i := 5) (by kernel_rfl) (by rfl) (by rfl) (fun KX hK => ?_)
                          have HK := TW.hide hK
                          clear hK
                          go_simp
                          refine (HHk.out Ynz29 HTnz29.out).mono ?_
                          rintro e_W2_ W2_ ⟨rfl, hb⟩
                          have HT1_ : Hid (Below wr.heap.size wr W2_) := HTnz29.out.trans (hb.mono HTnz29.out.size)
                          refine HK.out _ _ HT1_.out (fun _ => trivial) ?_
                          clear HK KX hb
                          try simp only [Act.put, List.setIfInBounds_toArray, List.set_cons_zero, List.set_cons_succ, List.getElem_toArray, List.getElem_cons_zero, List.getElem_cons_succ]
                          refine RG.wpL_take (fuel := 0) (a' := ?Anz29x) [11, 12, 13] (by kernel_rfl) (by kernel_rfl) (fun _ _ _ _ _ h => h) HT1_.out (fun _ => trivial) ?rnz29x ?_
                          case rnz29x =>
                            refine RG.RunsIf.weak (v := ?_) (by rfl) (by rfl) (fun Z hT => ?_) ?_
                            rotate_left
                            · go_simp
                              rfl
                            simp only [Act.put, List.setIfInBounds_toArray, List.set_cons_zero, List.set_cons_succ, List.getElem_toArray, List.getElem_cons_zero, List.getElem_cons_succ]
                            refine RG.RunsIf.weak (v := ?_) (by rfl) (by rfl) (fun Z hT => ?_) ?_
                            rotate_left
                            · go_simp
                              rfl
                            simp only [Act.put, List.setIfInBounds_toArray, List.set_cons_zero, List.set_cons_succ, List.getElem_toArray, List.getElem_cons_zero, List.getElem_cons_succ]
                            refine RG.RunsIf.weak (v := ?_) (by rfl) (by rfl) (fun Z hT => ?_) ?_
                            rotate_left
                            · go_simp
                              rfl
                            simp only [Act.put, List.setIfInBounds_toArray, List.set_cons_zero, List.set_cons_succ, List.getElem_toArray, List.getElem_cons_zero, List.getElem_cons_succ]
                            exact RG.RunsIf.nil
                          refine RG.wpL_done (by kernel_rfl) ?_ _
                          refine NoPanic.normal ?_
                          have HB2 : Hid (Below wo.heap.size wo W2_) := HBi.out.trans (HT1_.out.mono HBi.out.size)
                          clear x0 x1 x2 x3 x4
                          go_wp2
                          go_roundw
                          case rel => exact ⟨m + 1, HLT.out, by go_num, by rw [HT'.out], by rw [HA'.out, Bool.true_and], HB2⟩
                          case measure => simp [intOf]; have := HLT.out; omega
                        | false =>
                          go_wp2
                          go_quiet (fail)
                          have HQ : Hid (Below wo.heap.size wo (wr.drewN nq)) := below_drewN HBi.out _
                          go_wp2
                          go_roundw
                          case rel => exact ⟨m + 1, HLT.out, by go_num, by rw [HT'.out], by rw [HA'.out, Bool.false_and], HQ⟩
                          case measure => simp [intOf]; have := HLT.out; omega
                      · have ka : (a == (k : Int)) = false := by simp [hak]
                        have HA' : Hid (gaB l cell (m + 1) (k : Int) = al) := by show _ = _; rw [HAs.out, HGn.out (fun h => by omega) (fun h => hak h.2), Bool.and_true]
                        clear h9 hak HTs HAs HGa HGf HGn HAc HAn
                        go_wp2
                        go_roundw
                        case rel => exact ⟨m + 1, HLT.out, by go_num, by rw [HT'.out], by rw [HA'.out], HBi⟩
                        case measure => simp [intOf]; have := HLT.out; omega
                    · have k9 : (op == 9) = false := by simp [h9]
                      have HA' : Hid (gaB l cell (m + 1) (k : Int) = al) := by show _ = _; rw [HAs.out, HGn.out (fun h => by omega) (fun h => h9 h.1), Bool.and_true]
                      clear h9 HTs HAs HGa HGf HGn HAc HAn
                      go_wp2
                      go_roundw
                      case rel => exact ⟨m + 1, HLT.out, by go_num, by rw [HT'.out], by rw [HA'.out], HBi⟩
                      case measure => simp [intOf]; have := HLT.out; omega
              · have HT' : Hid (guT l cell (m + 1) = sv) := by show _ = _; rw [HTs.out, HAn.out (fun h => hc h.2), Bool.or_false]
                by_cases h9 : op = 9
                · have k9 : (op == 9) = true := by simp [h9]
                  have k12 : (op == 12) = false := by simp; omega
                  have k13 : (op == 13) = false := by simp; omega
                  by_cases hak : a = (k : Int)
                  · have ka : (a == (k : Int)) = true := by simp [hak]
                    have HA' : Hid (gaB l cell (m + 1) (k : Int) = (al && (hh == who))) := by show _ = _; rw [HAs.out, HGf.out h9 hak]
                    clear h9 hak HTs HAs HGa HGf HGn HAc HAn
                    cases al with
                    | true =>
                      go_wp2
                      refine wp_region_noPanic ?_
                      refine RG.wp_region_L (fun Z => True) (fun Z => Below wr.heap.size wr Z) [] (by kernel_rfl) ?_
                      refine RG.wpL_any fun Ynz30 hY => ?_
                      have HTnz30 : Hid (Below wr.heap.size wr Ynz30) := by rw [hY]; exact below_drewN HX.out 1
                      clear hY
                      refine RG.wpL_take (fuel := 4) (a' := ?Anz30) [0, 1, 2, 3, 4, 6, 7, 8, 9, 10] (by kernel_rfl) (by kernel_rfl) (fun _ _ _ _ _ h => h) HTnz30.out (fun _ => trivial) ?rnz30 ?_
                      case rnz30 =>
                        refine RG.RunsIf.weak (v := ?_) (by rfl) (by rfl) (fun Z hT => ?_) ?_
                        rotate_left
                        · go_simp
                          rfl
                        simp only [Act.put, List.setIfInBounds_toArray, List.set_cons_zero, List.set_cons_succ, List.getElem_toArray, List.getElem_cons_zero, List.getElem_cons_succ]
                        refine RG.RunsIf.weak (v := ?_) (by rfl) (by rfl) (fun Z hT => ?_) ?_
                        rotate_left
                        · go_simp
                          rfl
                        simp only [Act.put, List.setIfInBounds_toArray, List.set_cons_zero, List.set_cons_succ, List.getElem_toArray, List.getElem_cons_zero, List.getElem_cons_succ]
                        refine RG.RunsIf.weak (v := ?_) (by rfl) (by rfl) (fun Z hT => ?_) ?_
                        rotate_left
                        · go_simp
                          rfl
                        simp only [Act.put, List.setIfInBounds_toArray, List.set_cons_zero, List.set_cons_succ, List.getElem_toArray, List.getElem_cons_zero, List.getElem_cons_succ]
                        refine RG.RunsIf.weak (v := ?_) (by rfl) (by rfl) (fun Z hT => ?_) ?_
                        rotate_left
                        · go_simp
                          rfl
                        simp only [Act.put, List.setIfInBounds_toArray, List.set_cons_zero, List.set_cons_succ, List.getElem_toArray, List.getElem_cons_zero, List.getElem_cons_succ]
                        refine RG.RunsIf.weak (v := ?_) (by rfl) (by rfl) (fun Z hT => ?_) ?_
                        rotate_left
                        · go_simp
                          rfl
                        simp only [Act.put, List.setIfInBounds_toArray, List.set_cons_zero, List.set_cons_succ, List.getElem_toArray, List.getElem_cons_zero, List.getElem_cons_succ]
                        refine RG.RunsIf.weak (v := ?_) (by rfl) (by rfl) (fun Z hT => ?_) ?_
                        rotate_left
                        · go_simp
                          rfl
                        simp only [Act.put, List.setIfInBounds_toArray, List.set_cons_zero, List.set_cons_succ, List.getElem_toArray, List.getElem_cons_zero, List.getElem_cons_succ]
                        refine RG.RunsIf.weak (v := ?_) (by rfl) (by rfl) (fun Z hT => ?_) ?_
                        rotate_left
                        · go_simp
                          rfl
                        simp only [Act.put, List.setIfInBounds_toArray, List.set_cons_zero, List.set_cons_succ, List.getElem_toArray, List.getElem_cons_zero, List.getElem_cons_succ]
                        refine RG.RunsIf.weak (v := ?_) (by rfl) (by rfl) (fun Z hT => ?_) ?_
                        rotate_left
                        · go_simp
                          rfl
                        simp only [Act.put, List.setIfInBounds_toArray, List.set_cons_zero, List.set_cons_succ, List.getElem_toArray, List.getElem_cons_zero, List.getElem_cons_succ]
                        refine RG.RunsIf.weak (v := ?_) (by rfl) (by rfl) (fun Z hT => ?_) ?_
                        rotate_left
                        · go_simp
                          rfl
                        simp only [Act.put, List.setIfInBounds_toArray, List.set_cons_zero, List.set_cons_succ, List.getElem_toArray, List.getElem_cons_zero, List.getElem_cons_succ]
                        refine RG.RunsIf.weak (v := .int .i64 who) (by rfl) (by rfl) (fun Z hT => ?_) ?_
                        · have x0 := keepC hT x0
                          go_simp
                        simp only [Act.put, List.setIfInBounds_toArray, List.set_cons_zero, List.set_cons_succ, List.getElem_toArray, List.getElem_cons_zero, List.getElem_cons_succ]
                        exact RG.RunsIf.nil
                      refine RG.wpL_stepw (i := 5) (by kernel_rfl) (by rfl) (by rfl) (fun KX hK => ?_)
                      have HK := TW.hide hK
                      clear hK
                      go_simp
                      refine (HHk.out Ynz30 HTnz30.out).mono ?_
                      rintro e_W2_ W2_ ⟨rfl, hb⟩
                      have HT1_ : Hid (Below wr.heap.size wr W2_) := HTnz30.out.trans (hb.mono HTnz30.out.size)
                      refine HK.out _ _ HT1_.out (fun _ => trivial) ?_
                      clear HK KX hb
                      try simp only [Act.put, List.setIfInBounds_toArray, List.set_cons_zero, List.set_cons_succ, List.getElem_toArray, List.getElem_cons_zero, List.getElem_cons_succ]
                      refine RG.wpL_take (fuel := 0) (a' := ?Anz30x) [11, 12, 13] (by kernel_rfl) (by kernel_rfl) (fun _ _ _ _ _ h => h) HT1_.out (fun _ => trivial) ?rnz30x ?_
                      case rnz30x =>
                        refine RG.RunsIf.weak (v := ?_) (by rfl) (by rfl) (fun Z hT => ?_) ?_
                        rotate_left
                        · go_simp
                          rfl
                        simp only [Act.put, List.setIfInBounds_toArray, List.set_cons_zero, List.set_cons_succ, List.getElem_toArray, List.getElem_cons_zero, List.getElem_cons_succ]
                        refine RG.RunsIf.weak (v := ?_) (by rfl) (by rfl) (fun Z hT => ?_) ?_
                        rotate_left
                        · go_simp
                          rfl
                        simp only [Act.put, List.setIfInBounds_toArray, List.set_cons_zero, List.set_cons_succ, List.getElem_toArray, List.getElem_cons_zero, List.getElem_cons_succ]
                        refine RG.RunsIf.weak (v := ?_) (by rfl) (by rfl) (fun Z hT => ?_) ?_
                        rotate_left
                        · go_simp
                          rfl
                        simp only [Act.put, List.setIfInBounds_toArray, List.set_cons_zero, List.set_cons_succ, List.getElem_toArray, List.getElem_cons_zero, List.getElem_cons_succ]
                        exact RG.RunsIf.nil
                      refine RG.wpL_done (by kernel_rfl) ?_ _
                      refine NoPanic.normal ?_
                      have HB2 : Hid (Below wo.heap.size wo W2_) := HBi.out.trans (HT1_.out.mono HBi.out.size)
                      clear x0 x1 x2 x3 x4
                      go_wp2
                      go_roundw
                      case rel => exact ⟨m + 1, HLT.out, by go_num, by rw [HT'.out], by rw [HA'.out, Bool.true_and], HB2⟩
                      case measure => simp [intOf]; have := HLT.out; omega
                    | false =>
                      go_wp2
                      go_quiet (fail)
                      have HQ : Hid (Below wo.heap.size wo (wr.drewN nq)) := below_drewN HBi.out _
                      go_wp2
                      go_roundw
                      case rel => exact ⟨m + 1, HLT.out, by go_num, by rw [HT'.out], by rw [HA'.out, Bool.false_and], HQ⟩
                      case measure => simp [intOf]; have := HLT.out; omega
                  · have ka : (a == (k : Int)) = false := by simp [hak]
                    have HA' : Hid (gaB l cell (m + 1) (k : Int) = al) := by show _ = _; rw [HAs.out, HGn.out (fun h => hc h.2) (fun h => hak h.2), Bool.and_true]
                    clear h9 hak HTs HAs HGa HGf HGn HAc HAn
                    go_wp2
                    go_roundw
                    case rel => exact ⟨m + 1, HLT.out, by go_num, by rw [HT'.out], by rw [HA'.out], HBi⟩
                    case measure => simp [intOf]; have := HLT.out; omega
                · have k9 : (op == 9) = false := by simp [h9]
                  have HA' : Hid (gaB l cell (m + 1) (k : Int) = al) := by show _ = _; rw [HAs.out, HGn.out (fun h => hc h.2) (fun h => h9 h.1), Bool.and_true]
                  clear h9 HTs HAs HGa HGf HGn HAc HAn
                  have kc : (a == cell) = false := by simp [hc]
                  by_cases h12 : op = 12
                  · have k12 : (op == 12) = true := by simp [h12]
                    go_wp2
                    go_roundw
                    case rel => exact ⟨m + 1, HLT.out, by go_num, by rw [HT'.out], by rw [HA'.out], HBi⟩
                    case measure => simp [intOf]; have := HLT.out; omega
                  · have k12 : (op == 12) = false := by simp [h12]
                    by_cases h13 : op = 13
                    · have k13 : (op == 13) = true := by simp [h13]
                      go_wp2
                      go_roundw
                      case rel => exact ⟨m + 1, HLT.out, by go_num, by rw [HT'.out], by rw [HA'.out], HBi⟩
                      case measure => simp [intOf]; have := HLT.out; omega
                    · have k13 : (op == 13) = false := by simp [h13]
                      go_wp2
                      go_roundw
                      case rel => exact ⟨m + 1, HLT.out, by go_num, by rw [HT'.out], by rw [HA'.out], HBi⟩
                      case measure => simp [intOf]; have := HLT.out; omega
            · have hmn : l.length = m := by omega
              have kk : ((m : Int) < (l.length : Int)) = False := by simp; omega
              rw [hmn] at HPB
              have HOw := TW.hide (own_belowI HO.out HBi.out)
              have HBn : Hid (Below W1.heap.size W1 wr) := HB.out.trans (HBi.out.mono HB.out.size)
              clear hmn HO hm
              generalize guT l cell m = sv at *
              generalize gaB l cell m (k : Int) = al at *
              cases pb with
              | true =>
                obtain ⟨rfl, rfl⟩ : sv = true ∧ al = true := by have := HPB.out; simpa using this
                clear HPB
                go_wp2_with (at_builtin; refine wpList_append_own _ rfl _ _ 23 rfl W1.heap.size 3 i3 (.int .i64 0) 1 8 Try.underlying23 hi3 hz30 hz31 hz32 rfl (by decide) _ FK.length (FK.map (Value.int .i64)) rfl (HOw.out.alloc _) ⟨wr.heap.size, 0, none⟩ 1 1 [.int .i64 (k : Int)] rfl rfl (cell_one_new _ _ _) (by simp [Value.oneCell']) (by unfold maxLen; omega) (by omega) (by have := HBn.out.size; simp; omega) ?_; (intro v5 w5 hown' hgrow _); have HO5 := TW.hide hown'; have HG5 := TW.hide hgrow; clear hown' hgrow)
                have HB5 : Hid (Below W1.heap.size W1 w5) := (HBn.out.alloc HBn.out.size _).grown HG5.out (by have := HBn.out.size; simp; omega) (fun q hq => own_blkI HOw.out q hq)
                clear HG5
                go_wp2
                refine HK.out _ _ ?_
                go_wp2
                go_roundw
                case rel =>
                  refine ⟨k + 1, HLT0.out, by go_num, ?_, HB5⟩
                  rw [HFk.out, if_pos (by trivial)]
                  show World.ownsRow _ _ _ _ _ _ _
                  rw [List.length_append, List.map_append]
                  exact HO5.out
                case measure => simp [intOf]; have := HLT0.out; omega
              | false =>
                cases sv with
                | false =>
                  clear HPB
                  go_wp2
                  refine HK.out _ _ ?_
                  go_wp2
                  go_roundw
                  case rel =>
                    refine ⟨k + 1, HLT0.out, by go_num, ?_, HBn⟩
                    rw [HFk.out, if_neg (by simp)]
                    exact HOw
                  case measure => simp [intOf]; have := HLT0.out; omega
                | true =>
                  obtain rfl : al = false := by have := HPB.out; simpa using this
                  clear HPB
                  go_wp2
                  refine HK.out _ _ ?_
                  go_wp2
                  go_roundw
                  case rel =>
                    refine ⟨k + 1, HLT0.out, by go_num, ?_, HBn⟩
                    rw [HFk.out, if_neg (by simp)]
                    exact HOw
                  case measure => simp [intOf]; have := HLT0.out; omega
        · obtain rfl : k = L := by omega
          have kk : ¬ (k : Int) < (k : Int) := by omega
          have HPx : Hid (∀ v, wr.ownsRow W1.heap.size 3 1 v ((lkL k).filter PG).length (((lkL k).filter PG).map (Value.int .i64)) → POST (.returned (.tuple #[v, .int .i64 0])) wr) := fun v hv => HPk.out wr _ v hv (NB1.out.trans (HB.out.mono NB1.out.size))
          have HR := TW.hide (HPx.out _ HO.out)
          clear HPx HO
          go_wp2
          first | exact HR.out | exact ⟨rfl, HR.out⟩
    · have kd : (decide (0 ≤ cell ∧ cell < s.cells)) = false := decide_eq_false hi
      have HR := TW.hide (HPa'.out hi W1 NB1.out)
      rw [kd]
      clear hi kd HPo' HPa' HIn HHo
      go_wp2
      first | exact HR.out | exact ⟨rfl, HR.out⟩
  · have HR := TW.hide (HPe.out he W1 NB1.out)
    have kv : (ve != 0) = true := by simp [he]
    clear he HOk HPe HPa HPo HEw
    go_wp2
    first | exact HR.out | exact ⟨rfl, HR.out⟩
end LW
end Go.Proofs.Ytlnlkhbegdifkaa
