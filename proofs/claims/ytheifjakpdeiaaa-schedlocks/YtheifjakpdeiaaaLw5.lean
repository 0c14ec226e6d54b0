/-
  The law on locks and groups.
-/
import Derived.Test.YtheifjakpdeiaaaLw4
import Derived.Test.YtheifjakpdeiaaaReps
namespace Go.Proofs.Ytheifjakpdeiaaa
open Go.RowKit
set_option linter.unusedVariables false
set_option linter.unusedSimpArgs false
namespace LW
open Mc
theorem wp_act {P : Program} {c : Code} {Q : Exit → Act → World → Prop} {a : Act} {w : World} (h : ∀ b : Act, b = a → Code.wp P c Q b w) : Code.wp P c Q a w := h a rfl
theorem own_rdB {w : World} {B b n : Nat} {l : List Bool} (h : w.ownsRow B 4 1 (.slice (some ⟨b, 0, none⟩) n n) n (l.map Value.bool)) (i : Nat) (hi : i < n) : w.frozen? ⟨b, i, none⟩ = false ∧ w.cell? ⟨b, i, none⟩ = some (.bool (l.getD i false)) := by
  have hl := h.1
  rw [List.length_map] at hl
  obtain ⟨b', cap, e, _, _, hf, hr⟩ := own_rd h (by omega)
  injection e with e1
  injection e1 with e1
  injection e1 with e1
  subst e1
  exact ⟨hf i, hr i _ (by rw [List.getElem?_map, List.getElem?_eq_getElem (by omega), List.getD_eq_getElem?_getD, List.getElem?_eq_getElem (by omega)]; rfl)⟩
theorem own_rdI {w : World} {B b n : Nat} {l : List Int} (h : w.ownsRow B 3 1 (.slice (some ⟨b, 0, none⟩) n n) n (l.map (Value.int .i64))) (i : Nat) (hi : i < n) : w.frozen? ⟨b, i, none⟩ = false ∧ w.cell? ⟨b, i, none⟩ = some (.int .i64 (l.getD i 0)) := by
  have hl := h.1
  rw [List.length_map] at hl
  obtain ⟨b', cap, e, _, _, hf, hr⟩ := own_rd h (by omega)
  injection e with e1
  injection e1 with e1
  injection e1 with e1
  subst e1
  exact ⟨hf i, hr i _ (by rw [List.getElem?_map, List.getElem?_eq_getElem (by omega), List.getD_eq_getElem?_getD, List.getElem?_eq_getElem (by omega)]; rfl)⟩
theorem boolinfo5 : (Try.prog.info? 4).map (fun i => (i.zero, i.size, i.bytes)) = some (some (.bool false), 1, 1) := by kernel_rfl
theorem made_rep5 (z : Value) (hz : z.cells = #[z]) (n : Nat) : (madeCells z.cells (n * 1)).toList = List.replicate n z := by
  rw [hz]
  simp [madeCells, Nat.mod_one, List.map_const']
set_option maxRecDepth 100000 in
set_option maxHeartbeats 4000000 in
theorem locksW (hP : PPlay) (s : Syst) (pa : Option Addr) (pc : Nat) (ra : Option Addr) (rc : Nat) (pka : Option Addr) (pkc : Nat) (picks : List Int) (w : World) (hs : SyI w s pa ra) (hp : PkI w pka pkc picks) :
    Calls Try.prog 6 #[.agg (syC s pa pc ra rc), .slice pka picks.length pkc] w fun e w' => e = .returned (.bool true) ∧ Below w.heap.size w w' := by
  have HPl : Hid (∀ W, SyI W s pa ra → PkI W pka pkc picks → Calls Try.prog 12 #[.agg (syC s pa pc ra rc), .slice pka picks.length pkc] W (PlaP W s picks)) := fun W hW hW2 => hP s pa pc ra rc pka pkc picks W hW hW2
  unfold syC at HPl
  have HPk := TW.hide hp
  have HVd : Hid (∀ W, SyI W s pa ra → Calls Try.prog 10 #[.agg #[.slice pa s.progs.length pc, .slice ra s.rooms.length rc, .int .i64 s.groups, .int .i64 s.locks, .int .i64 s.cells]] W (RiP (Ok s) W)) := fun W hW => rvalid13 s pa pc ra rc _ _ W hW.sm rfl rfl hW.pn hW.rn hW.pl
  unfold syC
  have hA : Below w.heap.size w (w.alloc (.cells #[.slice pa s.progs.length pc, .slice ra s.rooms.length rc, .int .i64 s.groups, .int .i64 s.locks, .int .i64 s.cells] 25)) := (Below.refl _ _).alloc (Nat.le_refl _) _
  have N1 : Hid ((w.alloc (.cells #[.slice pa s.progs.length pc, .slice ra s.rooms.length rc, .int .i64 s.groups, .int .i64 s.locks, .int .i64 s.cells] 25)).heap[w.heap.size]? = some (.cells #[.slice pa s.progs.length pc, .slice ra s.rooms.length rc, .int .i64 s.groups, .int .i64 s.locks, .int .i64 s.cells] 25 (0, 0))) := heap_alloc_new w _
  have HBV := TW.hide hA
  clear hA
  go_enter Try.func6, Try.ntmps6
  refine wp_seq_k fun K hK => ?_
  have HK := TW.hide hK
  clear hK
  go_wp2
  refine HK.out _ _ ?_
  clear HK K
  generalize World.alloc _ _ = V at *
  have HSy := TW.hide (hs.below HBV.out)
  obtain ⟨s0, s1, s2, s3, s4⟩ := cellsY5 N1.out
  have HPk1 := TW.hide (HPk.out.below HBV.out)
  clear HPk
  refine wp_seq_k fun K hK => ?_
  have HK := TW.hide hK
  clear hK
  go_wp2_with fail
  refine (awake_ hP _).mono ?_
  rintro e8 w8 ⟨rfl, hb⟩
  have HSy8 := TW.hide (HSy.out.below hb)
  have HPk8 := TW.hide (HPk1.out.below hb)
  have N8 := TW.hide (blk_keep N1.out hb)
  have HB8 : Hid (Below w.heap.size w w8) := HBV.out.trans (hb.mono HBV.out.size)
  clear hb HSy HPk1 N1 HBV s0 s1 s2 s3 s4
  go_wp2
  refine HK.out _ _ ?_
  clear HK
  obtain ⟨s0, s1, s2, s3, s4⟩ := cellsY5 N8.out
  refine wp_seq_k fun K hK => ?_
  have HK := TW.hide hK
  clear hK
  go_wp2_with fail
  refine (HVd.out _ HSy8.out).mono ?_
  rintro e3 w3 ⟨b, rfl, hb1, hb⟩
  have HSy3 := TW.hide (HSy8.out.below hb)
  have HPk3 := TW.hide (HPk8.out.below hb)
  have N3 := TW.hide (blk_keep N8.out hb)
  have HB3 : Hid (Below w.heap.size w w3) := HB8.out.trans (hb.mono HB8.out.size)
  clear hb HSy8 HPk8 N8 HB8 s0 s1 s2 s3 s4
  cases b with
  | false =>
    clear hb1
    go_wp2
    go_ret
    exact ⟨rfl, HB3.out⟩
  | true =>
  have HO : Hid (Ok s) := hb1.1 rfl
  clear hb1
  go_wp2
  refine HK.out _ _ ?_
  clear HK
  obtain ⟨s0, s1, s2, s3, s4⟩ := cellsY5 N3.out
  refine wp_seq_k fun K hK => ?_
  have HK := TW.hide hK
  clear hK
  go_wp2_with fail
  refine (HPl.out _ HSy3.out HPk3.out).mono ?_
  rintro e6 w6 ⟨cs, x, r, rfl, hr, hb, hx1, hx2⟩
  obtain ⟨rfl, rfl⟩ := hx1 HO.out
  obtain ⟨ea, ec, ca, cc, rfl, hEv, hCe⟩ := hr
  have HRn : Hid ((Mc.play s picks).2.2.evs.length ≤ 40000 ∧ (Mc.play s picks).2.2.cells.length ≤ 64) := ⟨play_len s picks, play_cells HO.out picks⟩
  have hb7 : Below w3.heap.size w3 (w6.alloc (.cells #[.int .i64 (Mc.play s picks).1, .int .i64 (Mc.play s picks).2.1, .slice ea (Mc.play s picks).2.2.evs.length ec, .int .i64 ((Mc.play s picks).2.2.rns.length : Int), .slice ca (Mc.play s picks).2.2.cells.length cc] 32)) := hb.alloc hb.size _
  have hb76 : Below w6.heap.size w6 (w6.alloc (.cells #[.int .i64 (Mc.play s picks).1, .int .i64 (Mc.play s picks).2.1, .slice ea (Mc.play s picks).2.2.evs.length ec, .int .i64 ((Mc.play s picks).2.2.rns.length : Int), .slice ca (Mc.play s picks).2.2.cells.length cc] 32)) := (Below.refl _ _).alloc (Nat.le_refl _) _
  have HEv := TW.hide (hEv.below hb76)
  have HCe := TW.hide (hCe.below hb76)
  have HSy := TW.hide (HSy3.out.below hb7)
  have HPk := TW.hide (HPk3.out.below hb7)
  have NS := TW.hide (blk_keep N3.out hb7)
  have HB : Hid (Below w.heap.size w (w6.alloc (.cells #[.int .i64 (Mc.play s picks).1, .int .i64 (Mc.play s picks).2.1, .slice ea (Mc.play s picks).2.2.evs.length ec, .int .i64 ((Mc.play s picks).2.2.rns.length : Int), .slice ca (Mc.play s picks).2.2.cells.length cc] 32))) := HB3.out.trans (hb7.mono HB3.out.size)
  have MR : Hid ((w6.alloc (.cells #[.int .i64 (Mc.play s picks).1, .int .i64 (Mc.play s picks).2.1, .slice ea (Mc.play s picks).2.2.evs.length ec, .int .i64 ((Mc.play s picks).2.2.rns.length : Int), .slice ca (Mc.play s picks).2.2.cells.length cc] 32)).heap[w6.heap.size]? = some (.cells #[.int .i64 (Mc.play s picks).1, .int .i64 (Mc.play s picks).2.1, .slice ea (Mc.play s picks).2.2.evs.length ec, .int .i64 ((Mc.play s picks).2.2.rns.length : Int), .slice ca (Mc.play s picks).2.2.cells.length cc] 32 (0, 0))) := heap_alloc_new w6 _
  clear hEv hCe hx1 hx2 hb hb7 hb76 HSy3 HPk3 N3 HB3 s0 s1 s2 s3 s4
  go_wp2
  refine HK.out _ _ ?_
  clear HK
  generalize World.alloc _ _ = X at *
  generalize w6.heap.size = bu at *
  obtain ⟨⟨k1, k4⟩, kI, XS, hX0, hXs⟩ := locks_fact HO.out HSy.out.nm picks
  have hN4 := HRn.out.1
  obtain ⟨q, kf, ke⟩ : ∃ q, ((Mc.play s picks).2.1 != 0) = q ∧ ((Mc.play s picks).1 == 3) = q := by
    by_cases h : (Mc.play s picks).1 = 3
    · exact ⟨true, by simpa using kI.2 h, by simpa using h⟩
    · exact ⟨false, by simpa using fun h2 => h (kI.1 h2), by simpa using h⟩
  have kq : (q != q) = false := by simp
  have HX0 := TW.hide hX0
  have HXs : Hid (∀ k, k < (Mc.play s picks).2.2.evs.length → lk1 s (q && decide (k + 1 = (Mc.play s picks).2.2.evs.length)) (XS k) ((Mc.play s picks).2.2.evs.getD k e0) = some (XS (k + 1))) := fun k hk => by
    have := hXs k hk
    have e : decide ((Mc.play s picks).1 = 3 ∧ k + 1 = (Mc.play s picks).2.2.evs.length) = (q && decide (k + 1 = (Mc.play s picks).2.2.evs.length)) := by
      rw [← ke, Bool.decide_and]
      rfl
    rwa [e] at this
  clear hX0 hXs kI HRn HPl HPk HCe
  generalize (Mc.play s picks).2.2.evs = EV at *
  generalize (Mc.play s picks).2.2.cells.length = M at *
  generalize ((Mc.play s picks).2.2.rns.length : Int) = rr at *
  generalize (Mc.play s picks).2.1 = fl at *
  generalize (Mc.play s picks).1 = en at *
  generalize hN : EV.length = N at *
  obtain ⟨r0, r1, r2, r3, r4⟩ := cellsY5 MR.out
  obtain ⟨s0, s1, s2, s3, s4⟩ := cellsY5 NS.out
  have j1 : ¬ en < 1 := by omega
  have j4 : ¬ 4 < en := by omega
  have j5 : ¬ (40000 : Int) < (N : Int) := by omega
  have hl1 := HO.out.l1
  have hg1 := HO.out.g1
  refine wp_seq_k fun K hK => ?_
  have HK := TW.hide hK
  clear hK
  go_wp2
  refine HK.out _ _ ?_
  clear HK
  obtain ⟨L, hL⟩ : ∃ L : Nat, s.locks = (L : Int) := ⟨s.locks.toNat, by omega⟩
  obtain ⟨G, hG⟩ : ∃ G : Nat, s.groups = (G : Int) := ⟨s.groups.toNat, by omega⟩
  have hL64 : L ≤ 64 := by omega
  have hG64 : G ≤ 64 := by omega
  obtain ⟨ib, hb0, hb1, hb2, hb3⟩ := info_parts' boolinfo5
  obtain ⟨ii, hi0, hi1, hi2, hi3⟩ := info_parts' intinfo
  refine wp_seq_k fun K hK => ?_
  have HK := TW.hide hK
  clear hK
  go_wp2_with (at_make; refine wpList_make_full _ rfl _ _ 40 rfl X.heap.size 4 ib (.bool false) 1 Try.underlying40 hb0 hb1 hb2 _ _ _ _ L rfl rfl (by first | rfl | exact hL) (by first | rfl | exact hL) (by rw [hb3]; omega) (by unfold maxLen; omega) (Nat.le_refl _) ?_; (intro w7 hown7 hgr7); have HO7 := TW.hide hown7; have HG7 := TW.hide hgr7; clear hown7 hgr7)
  refine HK.out _ _ ?_
  clear HK
  have hB7 : Below X.heap.size X w7 := (Below.refl _ _).grown HG7.out (Nat.le_refl _) (by intro k h; cases h)
  have s2w := keepC hB7 s2
  have hsz7 := hB7.size
  refine wp_seq_k fun K hK => ?_
  have HK := TW.hide hK
  clear hK
  go_wp2_with (at_make; refine wpList_make_full _ rfl _ _ 23 rfl X.heap.size 3 ii (.int .i64 0) 1 Try.underlying23 hi0 hi1 hi2 _ _ _ _ G rfl rfl (by first | rfl | exact hG) (by first | rfl | exact hG) (by rw [hi3]; omega) (by unfold maxLen; omega) hsz7 ?_; (intro w9 hown9 hgr9); have HO9 := TW.hide hown9; have HG9 := TW.hide hgr9; clear hown9 hgr9)
  refine HK.out _ _ ?_
  clear HK
  have HB9 : Hid (Below X.heap.size X w9) := hB7.grown HG9.out hsz7 (by intro k h; cases h)
  have HL0 : Hid (w9.ownsRow X.heap.size 4 1 (.slice (some ⟨X.heap.size, 0, none⟩) L L) L ((XS 0).1.map Value.bool)) := by
    have h1 := own_grownT HO7.out HG9.out (fun k hk => by simp)
    rw [HX0.out]
    show World.ownsRow _ _ _ _ _ _ ((List.replicate s.locks.toNat false).map Value.bool)
    rw [hL, Int.toNat_natCast, List.map_replicate]
    rw [made_rep5 _ rfl] at h1
    exact h1
  have HG0 : Hid (w9.ownsRow X.heap.size 3 1 (.slice (some ⟨w7.heap.size, 0, none⟩) G G) G ((XS 0).2.map (Value.int .i64))) := by
    have h1 := HO9.out
    rw [HX0.out]
    show World.ownsRow _ _ _ _ _ _ ((List.replicate s.groups.toNat 0).map (Value.int .i64))
    rw [hG, Int.toNat_natCast, List.map_replicate]
    rw [made_rep5 _ rfl] at h1
    exact h1
  clear HO7 HG7 HO9 HG9 hB7 hb0 hb1 hb2 hb3 hi0 hi1 hi2 hi3
  generalize hl2 : w7.heap.size = l2 at *
  have HX := TW.hide (fun (W : World) (hW : Below X.heap.size X W) => hW)
  have r2w := keepC HB9.out r2
  go_wp2
  clear r2w s2w
  go_loopw [59] (fun i wr => ∃ k : Nat, i = .int .i64 (k : Int) ∧ k ≤ N ∧ Hid (Below X.heap.size X wr) ∧ Hid (wr.ownsRow X.heap.size 4 1 (.slice (some ⟨X.heap.size, 0, none⟩) L L) L ((XS k).1.map Value.bool)) ∧ Hid (wr.ownsRow X.heap.size 3 1 (.slice (some ⟨l2, 0, none⟩) G G) G ((XS k).2.map (Value.int .i64)))) (fun i _ => N - (intOf i).toNat)
  case atStart => exact ⟨0, rfl, Nat.zero_le _, HB9, HL0, HG0⟩
  case round =>
    clear HB9 HL0 HG0
    obtain ⟨k, rfl, hkN, HBr, HLr, HGr⟩ := hrel
    by_cases hlt : k < N
    · have hk1 : (k : Int) < (N : Int) := by omega
      have hk0 : (0 : Int) ≤ (k : Int) := by omega
      obtain ⟨eb, eo, rfl, x0, x1, x2, x3, x4⟩ : ∃ eb eo, ea = some ⟨eb, eo, none⟩ ∧ wr.cell? ⟨eb, eo + k * 5, none⟩ = some (.int .i64 (EV.getD k e0).who) ∧ wr.cell? ⟨eb, eo + k * 5 + 1, none⟩ = some (.int .i64 (EV.getD k e0).op) ∧ wr.cell? ⟨eb, eo + k * 5 + 2, none⟩ = some (.int .i64 (EV.getD k e0).a) ∧ wr.cell? ⟨eb, eo + k * 5 + 3, none⟩ = some (.int .i64 (EV.getD k e0).value) ∧ wr.cell? ⟨eb, eo + k * 5 + 4, none⟩ = some (.bool (EV.getD k e0).shut) := by
        rcases HEv.out with h | ⟨b, off, e, hc⟩
        · rw [h] at hN; simp at hN; omega
        · obtain ⟨h0, h1, h2, h3, h4⟩ := hc k (by omega)
          exact ⟨b, off, e, keepC HBr.out h0, keepC HBr.out h1, keepC HBr.out h2, keepC HBr.out h3, keepC HBr.out h4⟩
      have HXk := TW.hide (HXs.out k hlt)
      generalize EV.getD k e0 = v at *
      obtain ⟨vw, vo, va, vv, vs⟩ := v
      dsimp only at x0 x1 x2 x3 x4
      refine wp_seq_k fun Ka hKa => ?_
      have HKa := TW.hide hKa
      clear hKa
      go_wp2
      refine HKa.out _ _ ?_
      clear HKa
      refine wp_seq_k fun Kc hKc => ?_
      have HKc := TW.hide hKc
      clear hKc
      go_wp2
      refine HKc.out _ _ ?_
      clear HKc
      refine wp_seq_k fun Kb hKb => ?_
      have HKb := TW.hide hKb
      clear hKb
      refine wp_block ?_
      refine wp_seq_k fun K12 hK12 => ?_
      have HK12 := TW.hide hK12
      clear hK12
      have hA12 : Below wr.heap.size wr (wr.alloc (.cells #[.int .i64 vw, .int .i64 vo, .int .i64 va, .int .i64 vv, .bool vs] 36)) := (Below.refl _ _).alloc (Nat.le_refl _) _
      have NE12 : Hid ((wr.alloc (.cells #[.int .i64 vw, .int .i64 vo, .int .i64 va, .int .i64 vv, .bool vs] 36)).heap[wr.heap.size]? = some (.cells #[.int .i64 vw, .int .i64 vo, .int .i64 va, .int .i64 vv, .bool vs] 36 (0, 0))) := heap_alloc_new wr _
      have HL12 := TW.hide (own_belowI HLr.out hA12)
      have HG12 := TW.hide (own_belowI HGr.out hA12)
      have HB12 : Hid (Below X.heap.size X (wr.alloc (.cells #[.int .i64 vw, .int .i64 vo, .int .i64 va, .int .i64 vv, .bool vs] 36))) := HBr.out.trans (hA12.mono HBr.out.size)
      clear hA12 HLr HGr HBr
      go_wp2
      refine HK12.out _ _ ?_
      clear HK12
      clear x0 x1 x2 x3 x4
      generalize World.alloc _ _ = Z at *
      generalize wr.heap.size = gv at *
      obtain ⟨bb, hbb⟩ : ∃ bb, (q && decide (k + 1 = N)) = bb := ⟨_, rfl⟩
      rw [hbb] at HXk
      refine wp_seq_k fun K13 hK13 => ?_
      refine wp_act fun a0 ha0 => ?_
      have HR13 : Hid (∀ u64 u65 u66 u67 u68 u69 u70 u71 u72 u73 u74 : Value, K13 ((((((((((((a0.put (some 64) u64).put (some 65) u65).put (some 66) u66).put (some 67) u67).put (some 68) u68).put (some 69) u69).put (some 70) u70).put (some 71) u71).put (some 72) u72).put (some 73) u73).put (some 74) u74).put (some 11) (.bool bb)) Z) := by
        intro u64 u65 u66 u67 u68 u69 u70 u71 u72 u73 u74
        refine hK13 _ _ ?_
        clear hK13 K13
        rw [ha0]
        clear ha0 a0
        simp only [Act.put, List.setIfInBounds_toArray, List.set_cons_zero, List.set_cons_succ]
        obtain ⟨v0, v1, v2, v3, v4⟩ := cellsY5 NE12.out
        have s2 := keepC HB12.out s2
        have s3 := keepC HB12.out s3
        have r2 := keepC HB12.out r2
        by_cases h8 : vo = 8
        · subst h8
          obtain ⟨a0, a1, hg, hy⟩ := lk8 HXk.out
          obtain ⟨na, rfl⟩ : ∃ na : Nat, va = (na : Int) := ⟨va.toNat, by omega⟩
          rw [Int.toNat_natCast] at hg hy
          rw [hL] at a1
          have b0 : ¬ (na : Int) < 0 := by omega
          have b1 : ¬ (L : Int) ≤ (na : Int) := by omega
          obtain ⟨fz, cz⟩ := own_rdB HL12.out na (by omega)
          rw [hg] at cz
          obtain ⟨lc, hlc⟩ := (row_is HL12.out rfl (by omega)).2
          have HL' : Hid ((Z.setCell ⟨X.heap.size, na, none⟩ (.bool true)).ownsRow X.heap.size 4 1 (.slice (some ⟨X.heap.size, 0, none⟩) L L) L ((XS (k + 1)).1.map Value.bool)) := by
            rw [hy]
            show World.ownsRow _ _ _ _ _ _ (((XS k).1.set na true).map Value.bool)
            rw [List.map_set]
            exact (HL12.out.stored na _).1
          have HG' : Hid ((Z.setCell ⟨X.heap.size, na, none⟩ (.bool true)).ownsRow X.heap.size 3 1 (.slice (some ⟨l2, 0, none⟩) G G) G ((XS (k + 1)).2.map (Value.int .i64))) := by
            rw [hy]
            exact own_setN HG12.out hlc (by decide)
          have HB' : Hid (Below X.heap.size X (Z.setCell ⟨X.heap.size, na, none⟩ (.bool true))) := HB12.out.setCell (p := ⟨X.heap.size, na, none⟩) (Nat.le_refl _) _
          clear hy hg hlc HXk HL12 HG12 HB12
          go_wp2
          clear cz fz
          generalize World.setCell _ _ _ = Z2 at *
          refine HKb.out _ _ ?_
          clear HKb
          go_wp2
          go_roundw
          case rel =>
            first
            | exact ⟨k + 1, by go_num, hlt, HB', HL', HG'⟩
            | (repeat apply Exists.intro
               refine ⟨?_, rfl⟩
               exact ⟨k + 1, by go_num, hlt, HB', HL', HG'⟩)
          case measure => simp [intOf]; omega
        by_cases h9 : vo = 9
        · subst h9
          obtain ⟨a0, a1, hg, hy⟩ := lk9 HXk.out
          obtain ⟨na, rfl⟩ : ∃ na : Nat, va = (na : Int) := ⟨va.toNat, by omega⟩
          rw [Int.toNat_natCast] at hg hy
          rw [hL] at a1
          have b0 : ¬ (na : Int) < 0 := by omega
          have b1 : ¬ (L : Int) ≤ (na : Int) := by omega
          obtain ⟨fz, cz⟩ := own_rdB HL12.out na (by omega)
          obtain ⟨lc, hlc⟩ := (row_is HL12.out rfl (by omega)).2
          have HL' : Hid ((Z.setCell ⟨X.heap.size, na, none⟩ (.bool false)).ownsRow X.heap.size 4 1 (.slice (some ⟨X.heap.size, 0, none⟩) L L) L ((XS (k + 1)).1.map Value.bool)) := by
            rw [hy]
            show World.ownsRow _ _ _ _ _ _ (((XS k).1.set na false).map Value.bool)
            rw [List.map_set]
            exact (HL12.out.stored na _).1
          have HG' : Hid ((Z.setCell ⟨X.heap.size, na, none⟩ (.bool false)).ownsRow X.heap.size 3 1 (.slice (some ⟨l2, 0, none⟩) G G) G ((XS (k + 1)).2.map (Value.int .i64))) := by
            rw [hy]
            exact own_setN HG12.out hlc (by decide)
          have HB' : Hid (Below X.heap.size X (Z.setCell ⟨X.heap.size, na, none⟩ (.bool false))) := HB12.out.setCell (p := ⟨X.heap.size, na, none⟩) (Nat.le_refl _) _
          generalize (XS k).1.getD na false = lb at *
          have kl : (lb == bb) = false := by simpa using hg
          clear hy hg hlc HXk HL12 HG12 HB12
          go_wp2
          clear cz fz
          generalize World.setCell _ _ _ = Z2 at *
          refine HKb.out _ _ ?_
          clear HKb
          go_wp2
          go_roundw
          case rel =>
            first
            | exact ⟨k + 1, by go_num, hlt, HB', HL', HG'⟩
            | (repeat apply Exists.intro
               refine ⟨?_, rfl⟩
               exact ⟨k + 1, by go_num, hlt, HB', HL', HG'⟩)
          case measure => simp [intOf]; omega
        by_cases h10 : vo = 10
        · subst h10
          obtain ⟨a0, a1, hg, hy⟩ := lk10 HXk.out
          obtain ⟨na, rfl⟩ : ∃ na : Nat, va = (na : Int) := ⟨va.toNat, by omega⟩
          rw [Int.toNat_natCast] at hy
          rw [hG] at a1
          have b0 : ¬ (na : Int) < 0 := by omega
          have b1 : ¬ (G : Int) ≤ (na : Int) := by omega
          obtain ⟨fz, cz⟩ := own_rdI HG12.out na (by omega)
          obtain ⟨lB, lc, hlc⟩ := row_is HG12.out rfl (by omega)
          have HG' : Hid ((Z.setCell ⟨l2, na, none⟩ (.int .i64 vv)).ownsRow X.heap.size 3 1 (.slice (some ⟨l2, 0, none⟩) G G) G ((XS (k + 1)).2.map (Value.int .i64))) := by
            rw [hy]
            show World.ownsRow _ _ _ _ _ _ (((XS k).2.set na vv).map (Value.int .i64))
            rw [List.map_set]
            exact (HG12.out.stored na _).1
          have HL' : Hid ((Z.setCell ⟨l2, na, none⟩ (.int .i64 vv)).ownsRow X.heap.size 4 1 (.slice (some ⟨X.heap.size, 0, none⟩) L L) L ((XS (k + 1)).1.map Value.bool)) := by
            rw [hy]
            exact own_setN HL12.out hlc (by decide)
          have HB' : Hid (Below X.heap.size X (Z.setCell ⟨l2, na, none⟩ (.int .i64 vv))) := HB12.out.setCell (p := ⟨l2, na, none⟩) lB _
          clear hy hlc HXk HL12 HG12 HB12
          by_cases hv : vv < 0
          · obtain rfl : bb = true := by rw [← hg]; simpa using hv
            clear hg
            go_wp2
            clear cz fz
            generalize World.setCell _ _ _ = Z2 at *
            refine HKb.out _ _ ?_
            clear HKb
            go_wp2
            go_roundw
            case rel =>
              first
              | exact ⟨k + 1, by go_num, hlt, HB', HL', HG'⟩
              | (repeat apply Exists.intro
                 refine ⟨?_, rfl⟩
                 exact ⟨k + 1, by go_num, hlt, HB', HL', HG'⟩)
            case measure => simp [intOf]; omega
          · obtain rfl : bb = false := by rw [← hg]; simpa using hv
            clear hg
            go_wp2
            clear cz fz
            generalize World.setCell _ _ _ = Z2 at *
            refine HKb.out _ _ ?_
            clear HKb
            go_wp2
            go_roundw
            case rel =>
              first
              | exact ⟨k + 1, by go_num, hlt, HB', HL', HG'⟩
              | (repeat apply Exists.intro
                 refine ⟨?_, rfl⟩
                 exact ⟨k + 1, by go_num, hlt, HB', HL', HG'⟩)
            case measure => simp [intOf]; omega
        by_cases h11 : vo = 11
        · subst h11
          obtain ⟨a0, a1, hg, hy⟩ := lk11 HXk.out
          obtain ⟨na, rfl⟩ : ∃ na : Nat, va = (na : Int) := ⟨va.toNat, by omega⟩
          rw [Int.toNat_natCast] at hg
          rw [hG] at a1
          have b0 : ¬ (na : Int) < 0 := by omega
          have b1 : ¬ (G : Int) ≤ (na : Int) := by omega
          obtain ⟨fz, cz⟩ := own_rdI HG12.out na (by omega)
          rw [hg] at cz
          have HL' := HL12
          have HG' := HG12
          rw [← hy] at HL' HG'
          clear hy hg HXk HL12 HG12
          go_wp2
          refine HKb.out _ _ ?_
          clear HKb
          go_wp2
          go_roundw
          case rel =>
            first
            | exact ⟨k + 1, by go_num, hlt, HB12, HL', HG'⟩
            | (repeat apply Exists.intro
               refine ⟨?_, rfl⟩
               exact ⟨k + 1, by go_num, hlt, HB12, HL', HG'⟩)
          case measure => simp [intOf]; omega
        have hy := lkO HXk.out h8 h9 h10 h11
        have HL' := HL12
        have HG' := HG12
        rw [← hy] at HL' HG'
        have o8 : (vo == 8) = false := by simpa using h8
        have o9 : (vo == 9) = false := by simpa using h9
        have o10 : (vo == 10) = false := by simpa using h10
        have o11 : (vo == 11) = false := by simpa using h11
        clear hy h8 h9 h10 h11 HXk HL12 HG12
        go_wp2
        refine HKb.out _ _ ?_
        clear HKb
        go_wp2
        go_roundw
        case rel =>
          first
          | exact ⟨k + 1, by go_num, hlt, HB12, HL', HG'⟩
          | (repeat apply Exists.intro
             refine ⟨?_, rfl⟩
             exact ⟨k + 1, by go_num, hlt, HB12, HL', HG'⟩)
        case measure => simp [intOf]; omega
      clear hK13
      have HA0 := TW.hide ha0
      rw [ha0]
      clear ha0
      have r0 := keepC HB12.out r0
      have r2 := keepC HB12.out r2
      cases q with
      | false =>
        obtain rfl : bb = false := by simpa using hbb.symm
        go_wp2
        have h := HR13.out (.pointer (some ⟨bu, 0, none⟩)) (.int .i64 en) (.bool false) (.bool false) undef undef undef undef undef undef (.bool false)
        rw [HA0.out] at h
        simp only [Act.put, List.setIfInBounds_toArray, List.set_cons_zero, List.set_cons_succ] at h
        exact h
      | true =>
        have kw : IntKind.i64.wrap ((N : Int) - 1) = (N : Int) - 1 := by rw [IntKind.wrap_i64]; omega
        by_cases hd : k + 1 = N
        · obtain rfl : bb = true := by simpa [hd] using hbb.symm
          have kd : ((k : Int) == (N : Int) - 1) = true := by simp; omega
          clear hd
          go_wp2
          have h := HR13.out (.pointer (some ⟨bu, 0, none⟩)) (.int .i64 en) (.bool true) (.bool true) (.int .i64 (k : Int)) (.pointer (some ⟨bu, 2, none⟩)) (.slice (some ⟨eb, eo, none⟩) N ec) (.int .i64 (N : Int)) (.int .i64 ((N : Int) - 1)) (.bool true) (.bool true)
          rw [HA0.out] at h
          simp only [Act.put, List.setIfInBounds_toArray, List.set_cons_zero, List.set_cons_succ] at h
          exact h
        · obtain rfl : bb = false := by simpa [hd] using hbb.symm
          have kd : ((k : Int) == (N : Int) - 1) = false := by simp; omega
          clear hd
          go_wp2
          have h := HR13.out (.pointer (some ⟨bu, 0, none⟩)) (.int .i64 en) (.bool true) (.bool true) (.int .i64 (k : Int)) (.pointer (some ⟨bu, 2, none⟩)) (.slice (some ⟨eb, eo, none⟩) N ec) (.int .i64 (N : Int)) (.int .i64 ((N : Int) - 1)) (.bool false) (.bool false)
          rw [HA0.out] at h
          simp only [Act.put, List.setIfInBounds_toArray, List.set_cons_zero, List.set_cons_succ] at h
          exact h
    · have hk1 : ¬ (k : Int) < (N : Int) := by omega
      go_wp2
      go_ret
      exact ⟨rfl, HB.out.trans (HBr.out.mono HB.out.size)⟩
end LW
end Go.Proofs.Ytheifjakpdeiaaa
