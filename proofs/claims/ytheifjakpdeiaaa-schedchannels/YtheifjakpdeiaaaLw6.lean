/-
  The law on channels.
-/
import Derived.Test.YtheifjakpdeiaaaLw4
import Derived.Test.YtheifjakpdeiaaaReps
namespace Go.Proofs.Ytheifjakpdeiaaa
open Go.RowKit
set_option linter.unusedVariables false
set_option linter.unusedSimpArgs false
namespace LW
open Mc
theorem wp_actC {P : Program} {c : Code} {Q : Exit → Act → World → Prop} {a : Act} {w : World} (h : ∀ b : Act, b = a → Code.wp P c Q b w) : Code.wp P c Q a w := h a rfl
theorem Qu.len {w : World} {v : Value} {xs : List Int} (h : Qu w v xs) : ∃ a c, v = .slice a xs.length c := by
  rcases h with ⟨rfl, rfl⟩ | ⟨b, off, cap, cur, rfl, _⟩
  · exact ⟨_, _, rfl⟩
  · exact ⟨_, _, rfl⟩
set_option maxRecDepth 100000 in
set_option maxHeartbeats 4000000 in
theorem chansW (hP : PPlay) (s : Syst) (pa : Option Addr) (pc : Nat) (ra : Option Addr) (rc : Nat) (pka : Option Addr) (pkc : Nat) (picks : List Int) (w : World) (hs : SyI w s pa ra) (hp : PkI w pka pkc picks) :
    Calls Try.prog 5 #[.agg (syC s pa pc ra rc), .slice pka picks.length pkc] w fun e w' => e = .returned (.bool true) ∧ Below w.heap.size w w' := by
  have HPl : Hid (∀ W, SyI W s pa ra → PkI W pka pkc picks → Calls Try.prog 12 #[.agg (syC s pa pc ra rc), .slice pka picks.length pkc] W (PlaP W s picks)) := fun W hW hW2 => hP s pa pc ra rc pka pkc picks W hW hW2
  unfold syC at HPl
  have HPk := TW.hide hp
  have HVd : Hid (∀ W, SyI W s pa ra → Calls Try.prog 10 #[.agg #[.slice pa s.progs.length pc, .slice ra s.rooms.length rc, .int .i64 s.groups, .int .i64 s.locks, .int .i64 s.cells]] W (RiP (Ok s) W)) := fun W hW => rvalid13 s pa pc ra rc _ _ W hW.sm rfl rfl hW.pn hW.rn hW.pl
  unfold syC
  have hA : Below w.heap.size w (w.alloc (.cells #[.slice pa s.progs.length pc, .slice ra s.rooms.length rc, .int .i64 s.groups, .int .i64 s.locks, .int .i64 s.cells] 25)) := (Below.refl _ _).alloc (Nat.le_refl _) _
  have N1 : Hid ((w.alloc (.cells #[.slice pa s.progs.length pc, .slice ra s.rooms.length rc, .int .i64 s.groups, .int .i64 s.locks, .int .i64 s.cells] 25)).heap[w.heap.size]? = some (.cells #[.slice pa s.progs.length pc, .slice ra s.rooms.length rc, .int .i64 s.groups, .int .i64 s.locks, .int .i64 s.cells] 25 (0, 0))) := heap_alloc_new w _
  have HBV := TW.hide hA
  clear hA
  go_enter Try.func5, Try.ntmps5
  refine wp_seq_k fun K hK => ?_
  have HK := TW.hide hK
  clear hK
  go_wp2
  refine HK.out _ _ ?_
  clear HK K
  generalize World.alloc _ _ = V at *
  have HSy := TW.hide (hs.below HBV.out)
  obtain ⟨s0, s1, s2, s3, s4⟩ := cellsY5 N1.out
  have HPk1 := TW.hide (HPk.out.below HBV.out)
  clear HPk
  refine wp_seq_k fun K hK => ?_
  have HK := TW.hide hK
  clear hK
  go_wp2_with fail
  refine (awake_ hP _).mono ?_
  rintro e8 w8 ⟨rfl, hb⟩
  have HSy8 := TW.hide (HSy.out.below hb)
  have HPk8 := TW.hide (HPk1.out.below hb)
  have N8 := TW.hide (blk_keep N1.out hb)
  have HB8 : Hid (Below w.heap.size w w8) := HBV.out.trans (hb.mono HBV.out.size)
  clear hb HSy HPk1 N1 HBV s0 s1 s2 s3 s4
  go_wp2
  refine HK.out _ _ ?_
  clear HK
  obtain ⟨s0, s1, s2, s3, s4⟩ := cellsY5 N8.out
  refine wp_seq_k fun K hK => ?_
  have HK := TW.hide hK
  clear hK
  go_wp2_with fail
  refine (HVd.out _ HSy8.out).mono ?_
  rintro e3 w3 ⟨b, rfl, hb1, hb⟩
  have HSy3 := TW.hide (HSy8.out.below hb)
  have HPk3 := TW.hide (HPk8.out.below hb)
  have N3 := TW.hide (blk_keep N8.out hb)
  have HB3 : Hid (Below w.heap.size w w3) := HB8.out.trans (hb.mono HB8.out.size)
  clear hb HSy8 HPk8 N8 HB8 s0 s1 s2 s3 s4
  cases b with
  | false =>
    clear hb1
    go_wp2
    go_ret
    exact ⟨rfl, HB3.out⟩
  | true =>
  have HO : Hid (Ok s) := hb1.1 rfl
  clear hb1
  go_wp2
  refine HK.out _ _ ?_
  clear HK
  obtain ⟨s0, s1, s2, s3, s4⟩ := cellsY5 N3.out
  refine wp_seq_k fun K hK => ?_
  have HK := TW.hide hK
  clear hK
  go_wp2_with fail
  refine (HPl.out _ HSy3.out HPk3.out).mono ?_
  rintro e6 w6 ⟨cs, x, r, rfl, hr, hb, hx1, hx2⟩
  obtain ⟨rfl, rfl⟩ := hx1 HO.out
  obtain ⟨ea, ec, ca, cc, rfl, hEv, hCe⟩ := hr
  have HRn : Hid ((Mc.play s picks).2.2.evs.length ≤ 40000 ∧ (Mc.play s picks).2.2.cells.length ≤ 64) := ⟨play_len s picks, play_cells HO.out picks⟩
  have hb7 : Below w3.heap.size w3 (w6.alloc (.cells #[.int .i64 (Mc.play s picks).1, .int .i64 (Mc.play s picks).2.1, .slice ea (Mc.play s picks).2.2.evs.length ec, .int .i64 ((Mc.play s picks).2.2.rns.length : Int), .slice ca (Mc.play s picks).2.2.cells.length cc] 32)) := hb.alloc hb.size _
  have hb76 : Below w6.heap.size w6 (w6.alloc (.cells #[.int .i64 (Mc.play s picks).1, .int .i64 (Mc.play s picks).2.1, .slice ea (Mc.play s picks).2.2.evs.length ec, .int .i64 ((Mc.play s picks).2.2.rns.length : Int), .slice ca (Mc.play s picks).2.2.cells.length cc] 32)) := (Below.refl _ _).alloc (Nat.le_refl _) _
  have HEv := TW.hide (hEv.below hb76)
  have HCe := TW.hide (hCe.below hb76)
  have HSy := TW.hide (HSy3.out.below hb7)
  have HPk := TW.hide (HPk3.out.below hb7)
  have NS := TW.hide (blk_keep N3.out hb7)
  have HB : Hid (Below w.heap.size w (w6.alloc (.cells #[.int .i64 (Mc.play s picks).1, .int .i64 (Mc.play s picks).2.1, .slice ea (Mc.play s picks).2.2.evs.length ec, .int .i64 ((Mc.play s picks).2.2.rns.length : Int), .slice ca (Mc.play s picks).2.2.cells.length cc] 32))) := HB3.out.trans (hb7.mono HB3.out.size)
  have MR : Hid ((w6.alloc (.cells #[.int .i64 (Mc.play s picks).1, .int .i64 (Mc.play s picks).2.1, .slice ea (Mc.play s picks).2.2.evs.length ec, .int .i64 ((Mc.play s picks).2.2.rns.length : Int), .slice ca (Mc.play s picks).2.2.cells.length cc] 32)).heap[w6.heap.size]? = some (.cells #[.int .i64 (Mc.play s picks).1, .int .i64 (Mc.play s picks).2.1, .slice ea (Mc.play s picks).2.2.evs.length ec, .int .i64 ((Mc.play s picks).2.2.rns.length : Int), .slice ca (Mc.play s picks).2.2.cells.length cc] 32 (0, 0))) := heap_alloc_new w6 _
  clear hEv hCe hx1 hx2 hb hb7 hb76 HSy3 HPk3 N3 HB3 s0 s1 s2 s3 s4
  go_wp2
  refine HK.out _ _ ?_
  clear HK
  generalize World.alloc _ _ = X at *
  generalize w6.heap.size = bu at *
  obtain ⟨q, ke⟩ : ∃ q, ((Mc.play s picks).1 == 3) = q := ⟨_, rfl⟩
  have HCh : Hid (∀ c, c < s.rooms.length → ∃ X : Nat → List Int × Bool, X 0 = ([], false) ∧ ∀ k, k < (Mc.play s picks).2.2.evs.length → (q = true ∧ k + 1 = (Mc.play s picks).2.2.evs.length → X (k + 1) = X k) ∧ (¬ (q = true ∧ k + 1 = (Mc.play s picks).2.2.evs.length) → ch1 s c (X k) ((Mc.play s picks).2.2.evs.getD k e0) = some (X (k + 1)))) := fun c hc => by
    obtain ⟨X, h0, h1⟩ := chans_all HO.out HSy.out.nm picks c hc
    have e : (q = true) = ((Mc.play s picks).1 = 3) := by rw [← ke]; simp
    rw [e]
    exact ⟨X, h0, h1⟩
  have hN4 := HRn.out.1
  clear HRn HPl HPk HCe
  generalize (Mc.play s picks).2.2.evs = EV at *
  generalize (Mc.play s picks).2.2.cells.length = M at *
  generalize ((Mc.play s picks).2.2.rns.length : Int) = rr at *
  generalize (Mc.play s picks).2.1 = fl at *
  generalize (Mc.play s picks).1 = en at *
  generalize hN : EV.length = N at *
  have hR64 := HO.out.r1
  have HRm : Hid (∀ c, c < s.rooms.length → s.rooms.getD c 0 ≤ 1024 ∧ ∃ b off, ra = some ⟨b, off, none⟩ ∧ X.cell? ⟨b, off + c, none⟩ = some (.int .i64 (s.rooms.getD c 0))) := fun c hc => by
    refine ⟨(HO.out.rm c hc).2, ?_⟩
    rcases HSy.out.sm.rm with h | ⟨b, off, e, hq⟩
    · rw [h] at hc; simp at hc
    · exact ⟨b, off, e, hq c hc⟩
  generalize hR : s.rooms.length = R at *
  obtain ⟨r0, r1, r2, r3, r4⟩ := cellsY5 MR.out
  obtain ⟨s0, s1, s2, s3, s4⟩ := cellsY5 NS.out
  go_wp2
  go_loopw [7] (fun i wr => ∃ c : Nat, i = .int .i64 (c : Int) ∧ c ≤ R ∧ Hid (Below X.heap.size X wr)) (fun i _ => R - (intOf i).toNat)
  case atStart => exact ⟨0, rfl, Nat.zero_le _, TW.hide (Below.refl _ _)⟩
  case round =>
    obtain ⟨c, rfl, hcR, HBo⟩ := hrel
    have s1w := keepC HBo.out s1
    have r2w := keepC HBo.out r2
    by_cases hcl : c < R
    · have hc1 : (c : Int) < (R : Int) := by omega
      have hc0 : (0 : Int) ≤ (c : Int) := by omega
      obtain ⟨XS, hX0, hXs⟩ := HCh.out c hcl
      have HX0 := TW.hide hX0
      have HXs := TW.hide hXs
      clear hX0 hXs
      go_wp2
      clear s1w r2w
      obtain ⟨wo, hwo⟩ : ∃ wo : World, wo = wr := ⟨_, rfl⟩
      subst hwo
      go_loopw [36, 8, 9] (fun i hv sv wr => ∃ k : Nat, i = .int .i64 (k : Int) ∧ k ≤ N ∧ sv = .bool (XS k).2 ∧ Hid (Qu wr hv (XS k).1) ∧ Hid (∀ b, hv.ownBlock = some b → X.heap.size ≤ b) ∧ Hid (Below X.heap.size X wr)) (fun i hv sv wr => N - (intOf i).toNat)
      case atStart => exact ⟨0, rfl, Nat.zero_le _, by rw [HX0.out], by rw [HX0.out]; exact .inl ⟨rfl, rfl⟩, TW.hide (fun b hb => by simp [Value.ownBlock] at hb), HBo⟩
      case round =>
        clear HBo
        obtain ⟨k, rfl, hkN, rfl, HQr, HOw, HBr⟩ := hrel
        obtain ⟨xa0, xc0, rfl⟩ := HQr.out.len
        by_cases hlt : k < N
        · have hk1 : (k : Int) < (N : Int) := by omega
          have hk0 : (0 : Int) ≤ (k : Int) := by omega
          obtain ⟨eb, eo, rfl, x0, x1, x2, x3, x4⟩ : ∃ eb eo, ea = some ⟨eb, eo, none⟩ ∧ wr.cell? ⟨eb, eo + k * 5, none⟩ = some (.int .i64 (EV.getD k e0).who) ∧ wr.cell? ⟨eb, eo + k * 5 + 1, none⟩ = some (.int .i64 (EV.getD k e0).op) ∧ wr.cell? ⟨eb, eo + k * 5 + 2, none⟩ = some (.int .i64 (EV.getD k e0).a) ∧ wr.cell? ⟨eb, eo + k * 5 + 3, none⟩ = some (.int .i64 (EV.getD k e0).value) ∧ wr.cell? ⟨eb, eo + k * 5 + 4, none⟩ = some (.bool (EV.getD k e0).shut) := by
            rcases HEv.out with h | ⟨b, off, e, hc⟩
            · rw [h] at hN; simp at hN; omega
            · obtain ⟨h0, h1, h2, h3, h4⟩ := hc k (by omega)
              exact ⟨b, off, e, keepC HBr.out h0, keepC HBr.out h1, keepC HBr.out h2, keepC HBr.out h3, keepC HBr.out h4⟩
          have HXk := TW.hide (HXs.out k hlt)
          generalize EV.getD k e0 = v at *
          obtain ⟨vw, vo, va, vv, vs⟩ := v
          dsimp only at x0 x1 x2 x3 x4
          refine wp_seq_k fun Ka hKa => ?_
          have HKa := TW.hide hKa
          clear hKa
          go_wp2
          refine HKa.out _ _ ?_
          clear HKa
          refine wp_seq_k fun Kc hKc => ?_
          have HKc := TW.hide hKc
          clear hKc
          go_wp2
          refine HKc.out _ _ ?_
          clear HKc
          refine wp_seq_k fun Kb hKb => ?_
          have HKb := TW.hide hKb
          clear hKb
          refine wp_block ?_
          refine wp_seq_k fun K12 hK12 => ?_
          have HK12 := TW.hide hK12
          clear hK12
          have hA12 : Below wr.heap.size wr (wr.alloc (.cells #[.int .i64 vw, .int .i64 vo, .int .i64 va, .int .i64 vv, .bool vs] 36)) := (Below.refl _ _).alloc (Nat.le_refl _) _
          have NE12 : Hid ((wr.alloc (.cells #[.int .i64 vw, .int .i64 vo, .int .i64 va, .int .i64 vv, .bool vs] 36)).heap[wr.heap.size]? = some (.cells #[.int .i64 vw, .int .i64 vo, .int .i64 va, .int .i64 vv, .bool vs] 36 (0, 0))) := heap_alloc_new wr _
          have HQ := TW.hide (HQr.out.below hA12)
          have HB12 : Hid (Below X.heap.size X (wr.alloc (.cells #[.int .i64 vw, .int .i64 vo, .int .i64 va, .int .i64 vv, .bool vs] 36))) := HBr.out.trans (hA12.mono HBr.out.size)
          clear hA12 HQr HBr
          go_wp2
          refine HK12.out _ _ ?_
          clear HK12
          clear x0 x1 x2 x3 x4
          generalize World.alloc _ _ = Z at *
          generalize wr.heap.size = gv at *
          refine wp_seq_k fun K16 hK16 => ?_
          refine wp_actC fun a0 ha0 => ?_
          have HR16 : Hid (¬ (q = true ∧ k + 1 = N) → ∀ u41 u42 u43 u44 u45 u46 u47 u48 u49 u50 u51 : Value, K16 ((((((((((((a0.put (some 41) u41).put (some 42) u42).put (some 43) u43).put (some 44) u44).put (some 45) u45).put (some 46) u46).put (some 47) u47).put (some 48) u48).put (some 49) u49).put (some 50) u50).put (some 51) u51).put (some 12) (.bool false)) Z) := by
            intro hnb
            have HNB := TW.hide hnb
            clear hnb
            intro u41 u42 u43 u44 u45 u46 u47 u48 u49 u50 u51
            refine hK16 _ _ ?_
            clear hK16 K16
            rw [ha0]
            clear ha0 a0
            simp only [Act.put, List.setIfInBounds_toArray, List.set_cons_zero, List.set_cons_succ]
            obtain ⟨v0, v1, v2, v3, v4⟩ := cellsY5 NE12.out
            have s1_ := s1
            have s1 := keepC HB12.out s1
            have hch := HXk.out.2 HNB.out
            by_cases hac : va = (c : Int)
            · subst hac
              have kc : ((c : Int) != (c : Int)) = false := by simp
              by_cases h5 : vo = 5
              · subst h5
                obtain ⟨hz, hlen, hy⟩ := ch5 hch
                obtain ⟨hrm, rb, ro, rfl, xr0⟩ := HRm.out c hcl
                have xr := keepC HB12.out xr0
                have hQl : (XS k).1.length + 1 ≤ 1048576 := by omega
                obtain ⟨n1, hn1⟩ : ∃ n1, (XS k).1.length + 1 = n1 := ⟨_, rfl⟩
                have hroom : ¬ s.rooms.getD c 0 < (n1 : Int) := by omega
                generalize s.rooms.getD c 0 = rm at *
                have HF : Hid (∀ v' w', Qu w' v' ((XS k).1 ++ [vv]) → (∀ b, b < (Z.alloc (.cells #[.int .i64 vv] 3)).heap.size → (Value.slice xa0 (XS k).1.length xc0).ownBlock ≠ some b → w'.heap[b]? = (Z.alloc (.cells #[.int .i64 vv] 3)).heap[b]?) → (v'.ownBlock = (Value.slice xa0 (XS k).1.length xc0).ownBlock ∨ ∃ b, v'.ownBlock = some b ∧ (Z.alloc (.cells #[.int .i64 vv] 3)).heap.size ≤ b) → (∀ B o, Below B o (Z.alloc (.cells #[.int .i64 vv] 3)) → B ≤ (Z.alloc (.cells #[.int .i64 vv] 3)).heap.size → (∀ b, (Value.slice xa0 (XS k).1.length xc0).ownBlock = some b → B ≤ b) → Below B o w') → (∃ a c', v' = .slice a n1 c') ∧ (∀ b, v'.ownBlock = some b → X.heap.size ≤ b) ∧ Below X.heap.size X w' ∧ w'.cell? ⟨w.heap.size, 1, none⟩ = some (.slice (some ⟨rb, ro, none⟩) R rc) ∧ w'.cell? ⟨rb, ro + c, none⟩ = some (.int .i64 rm)) := fun v' w' h1 h2 h3 h4 => by
                  have hA : Below X.heap.size X (Z.alloc (.cells #[.int .i64 vv] 3)) := HB12.out.alloc HB12.out.size _
                  have hB := h4 X.heap.size X hA hA.size HOw.out
                  refine ⟨?_, fun b hb => ?_, hB, keepC hB s1_, keepC hB xr0⟩
                  · obtain ⟨a, c', e⟩ := h1.len
                    rw [List.length_append, List.length_singleton, hn1] at e
                    exact ⟨a, c', e⟩
                  · rcases h3 with h3 | ⟨b', h3, h5⟩
                    · rw [h3] at hb; exact HOw.out b hb
                    · rw [h3] at hb
                      have e : b' = b := by simpa using hb
                      have := hA.size
                      omega
                generalize hsv : (XS k).2 = sv at *
                subst hz
                clear hch HXk
                go_wp2_with (at_builtin; refine wpList_plain rfl fun KX hKX => ?_; refine wp_append_q _ _ _ (by rfl) (.slice xa0 (XS k).1.length xc0) (XS k).1 (by rfl) (HQ.out.below ((Below.refl _ _).alloc (Nat.le_refl _) _)) Z.heap.size vv (by rfl) (blk_cell (heap_alloc_new Z _) rfl) hQl ?_; (intro v' w' hQ' hk' hs' hv' hbl'); obtain ⟨⟨xa, xc, rfl⟩, hO', hB', s1', xr'⟩ := HF.out v' w' hQ' hk' hv' hbl'; refine hKX _ _ ?_; have HQ' := TW.hide hQ'; have HO' := TW.hide hO'; have HB' := TW.hide hB'; clear hQ' hk' hs' hv' hbl' hO' hB' hKX)
                refine HKb.out _ _ ?_
                clear HKb
                go_wp2
                go_roundw
                case rel =>
                  first
                  | exact ⟨k + 1, by go_num, hlt, (by rw [hy]), (by rw [hy]; exact HQ'), HO', HB'⟩
                  | (repeat apply Exists.intro
                     refine ⟨?_, rfl⟩
                     exact ⟨k + 1, by go_num, hlt, (by rw [hy]), (by rw [hy]; exact HQ'), HO', HB'⟩)
                case measure => simp [intOf]; omega
              by_cases h7 : vo = 7
              · subst h7
                obtain ⟨hz, hy⟩ := ch7 hch
                generalize hsv : (XS k).2 = sv at *
                subst hz
                clear hch HXk
                go_wp2
                refine HKb.out _ _ ?_
                clear HKb
                go_wp2
                go_roundw
                case rel =>
                  first
                  | exact ⟨k + 1, by go_num, hlt, (by rw [hy]), (by rw [hy]; exact HQ), HOw, HB12⟩
                  | (repeat apply Exists.intro
                     refine ⟨?_, rfl⟩
                     exact ⟨k + 1, by go_num, hlt, (by rw [hy]), (by rw [hy]; exact HQ), HOw, HB12⟩)
                case measure => simp [intOf]; omega
              by_cases h6 : vo = 6
              · subst h6
                cases vs with
                | true =>
                  obtain ⟨hz, hz2, hy⟩ := ch6s hch
                  have hl0 : (XS k).1.length = 0 := by rw [hz2]; rfl
                  have kz : ¬ (0 : Int) < ((XS k).1.length : Int) := by omega
                  generalize hsv : (XS k).2 = sv at *
                  subst hz
                  clear hch HXk hl0 hz2
                  go_wp2
                  refine HKb.out _ _ ?_
                  clear HKb
                  go_wp2
                  go_roundw
                  case rel =>
                    first
                    | exact ⟨k + 1, by go_num, hlt, (by rw [hy, hsv]), (by rw [hy]; exact HQ), HOw, HB12⟩
                    | (repeat apply Exists.intro
                       refine ⟨?_, rfl⟩
                       exact ⟨k + 1, by go_num, hlt, (by rw [hy, hsv]), (by rw [hy]; exact HQ), HOw, HB12⟩)
                  case measure => simp [intOf]; omega
                | false =>
                  obtain ⟨hz, hz2, hy⟩ := ch6 hch
                  obtain ⟨qb, qo, qc, hve, hqc, xq⟩ := HQ.out.cell hz
                  rw [hz2] at xq
                  injection hve with e1 _ e3
                  have e3' := e3.symm
                  subst e1
                  subst e3'
                  have HT := TW.hide (Qu.tail HQ.out hz)
                  have HOt : Hid (∀ b, (Value.slice (if qc = 1 then some ⟨qb, qo, none⟩ else some ⟨qb, qo + 1, none⟩) ((XS k).1.length - 1) (qc - 1)).ownBlock = some b → X.heap.size ≤ b) := fun b hb => HOw.out b (by rw [← hb]; split <;> rfl)
                  generalize hql : (XS k).1.length = ql at *
                  have kq : ((ql : Int) == 0) = false := by simp; omega
                  have qp : (0 : Int) < (ql : Int) := by omega
                  have qpn : 0 < ql := by omega
                  have hqI : (1 : Int) ≤ (ql : Int) := by omega
                  have hqJ : (ql : Int) ≤ (qc : Int) := by omega
                  have kv : (vv != vv) = false := by simp
                  clear hch HXk
                  by_cases hc1 : qc = 1
                  · rw [if_pos hc1] at HT HOt
                    subst hc1
                    have hq1 : ql = 1 := by omega
                    subst hq1
                    go_wp2
                    go_quiet (fail)
                    go_wp2
                    refine HKb.out _ _ ?_
                    clear HKb
                    go_wp2
                    go_roundw
                    case rel =>
                      first
                      | exact ⟨k + 1, by go_num, hlt, (by rw [hy]), (by rw [hy]; exact TW.hide (HT.out.below (below_drewN (Below.refl _ _) _))), HOt, (TW.hide (below_drewN HB12.out _))⟩
                      | (repeat apply Exists.intro
                         refine ⟨?_, rfl⟩
                         exact ⟨k + 1, by go_num, hlt, (by rw [hy]), (by rw [hy]; exact TW.hide (HT.out.below (below_drewN (Below.refl _ _) _))), HOt, (TW.hide (below_drewN HB12.out _))⟩)
                    case measure => simp [intOf]; omega
                  · rw [if_neg hc1] at HT HOt
                    go_wp2
                    go_quiet (fail)
                    go_wp2
                    refine HKb.out _ _ ?_
                    clear HKb
                    go_wp2
                    go_roundw
                    case rel =>
                      first
                      | exact ⟨k + 1, by go_num, hlt, (by rw [hy]), (by rw [hy]; exact TW.hide (HT.out.below (below_drewN (Below.refl _ _) _))), HOt, (TW.hide (below_drewN HB12.out _))⟩
                      | (repeat apply Exists.intro
                         refine ⟨?_, rfl⟩
                         exact ⟨k + 1, by go_num, hlt, (by rw [hy]), (by rw [hy]; exact TW.hide (HT.out.below (below_drewN (Below.refl _ _) _))), HOt, (TW.hide (below_drewN HB12.out _))⟩)
                    case measure => simp [intOf]; omega
              have hy := chO hch (.inr ⟨h5, h6, h7⟩)
              have o5 : (vo == 5) = false := by simpa using h5
              have o6 : (vo == 6) = false := by simpa using h6
              have o7 : (vo == 7) = false := by simpa using h7
              clear hch HXk h5 h6 h7
              go_wp2
              refine HKb.out _ _ ?_
              clear HKb
              go_wp2
              go_roundw
              case rel =>
                first
                | exact ⟨k + 1, by go_num, hlt, (by rw [hy]), (by rw [hy]; exact HQ), HOw, HB12⟩
                | (repeat apply Exists.intro
                   refine ⟨?_, rfl⟩
                   exact ⟨k + 1, by go_num, hlt, (by rw [hy]), (by rw [hy]; exact HQ), HOw, HB12⟩)
              case measure => simp [intOf]; omega
            · have hy := chO hch (.inl hac)
              have kc : (va != (c : Int)) = true := by simpa using hac
              clear hch HXk
              go_wp2
              refine HKb.out _ _ ?_
              clear HKb
              go_wp2
              go_roundw
              case rel =>
                first
                | exact ⟨k + 1, by go_num, hlt, (by rw [hy]), (by rw [hy]; exact HQ), HOw, HB12⟩
                | (repeat apply Exists.intro
                   refine ⟨?_, rfl⟩
                   exact ⟨k + 1, by go_num, hlt, (by rw [hy]), (by rw [hy]; exact HQ), HOw, HB12⟩)
              case measure => simp [intOf]; omega
          have HK16 := TW.hide hK16
          clear hK16
          have HA0 := TW.hide ha0
          rw [ha0]
          clear ha0
          have r0 := keepC HB12.out r0
          have r2 := keepC HB12.out r2
          cases q with
          | false =>
            go_wp2
            have h := HR16.out (by simp) (.pointer (some ⟨bu, 0, none⟩)) (.int .i64 en) (.bool false) (.bool false) undef undef undef undef undef undef (.bool false)
            rw [HA0.out] at h
            simp only [Act.put, List.setIfInBounds_toArray, List.set_cons_zero, List.set_cons_succ] at h
            exact h
          | true =>
            have kw : IntKind.i64.wrap ((N : Int) - 1) = (N : Int) - 1 := by rw [IntKind.wrap_i64]; omega
            by_cases hd : k + 1 = N
            · have hy := HXk.out.1 ⟨rfl, hd⟩
              have kd : ((k : Int) == (N : Int) - 1) = true := by simp; omega
              clear hd HR16 HXk
              obtain ⟨v0, v1, v2, v3, v4⟩ := cellsY5 NE12.out
              go_wp2
              refine HK16.out _ _ ?_
              go_wp2
              refine HKb.out _ _ ?_
              clear HKb
              go_wp2
              go_roundw
              case rel =>
                first
                | exact ⟨k + 1, by go_num, hlt, (by rw [hy]), (by rw [hy]; exact HQ), HOw, HB12⟩
                | (repeat apply Exists.intro
                   refine ⟨?_, rfl⟩
                   exact ⟨k + 1, by go_num, hlt, (by rw [hy]), (by rw [hy]; exact HQ), HOw, HB12⟩)
              case measure => simp [intOf]; omega
            · have kd : ((k : Int) == (N : Int) - 1) = false := by simp; omega
              go_wp2
              have h := HR16.out (fun h => hd h.2) (.pointer (some ⟨bu, 0, none⟩)) (.int .i64 en) (.bool true) (.bool true) (.int .i64 (k : Int)) (.pointer (some ⟨bu, 2, none⟩)) (.slice (some ⟨eb, eo, none⟩) N ec) (.int .i64 (N : Int)) (.int .i64 ((N : Int) - 1)) (.bool false) (.bool false)
              rw [HA0.out] at h
              simp only [Act.put, List.setIfInBounds_toArray, List.set_cons_zero, List.set_cons_succ] at h
              exact h
        · have hk1 : ¬ (k : Int) < (N : Int) := by omega
          go_wp2
          go_roundw
          case rel =>
            first
            | exact ⟨c + 1, by go_num, hcl, HBr⟩
            | (repeat apply Exists.intro
               refine ⟨?_, rfl⟩
               exact ⟨c + 1, by go_num, hcl, HBr⟩)
          case measure => simp [intOf]; omega
    · have hc1 : ¬ (c : Int) < (R : Int) := by omega
      go_wp2
      go_ret
      exact ⟨rfl, HB.out.trans (HBo.out.mono HB.out.size)⟩
end LW
end Go.Proofs.Ytheifjakpdeiaaa
