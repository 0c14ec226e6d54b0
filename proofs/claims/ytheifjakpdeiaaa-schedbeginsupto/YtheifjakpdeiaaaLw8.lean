/-
  The law on runs that begin alike.
-/
import Derived.Test.YtheifjakpdeiaaaLw7
import Derived.Test.YtheifjakpdeiaaaPair
import Derived.Test.YtheifjakpdeiaaaPgK2
namespace Go.Proofs.Ytheifjakpdeiaaa
open Go.RowKit
set_option linter.unusedVariables false
set_option linter.unusedSimpArgs false
namespace LW
open Mc
theorem own_ge {W : World} {B n k : Nat} {t : TypeId} {v : Value} {ys : List Value} (h : W.ownsRow B t k v n ys) : ∀ j, v.ownBlock = some j → B ≤ j := by
  intro j hj
  rcases h.2 with ⟨rfl, _⟩ | ⟨g, cap, cur, rfl, hB, _⟩
  · cases hj
  · simp [Value.ownBlock] at hj
    omega
theorem blk_grownT {w w' : World} {B n k p : Nat} {t t' : TypeId} {v : Value} {ys : List Value} {cs : Array Value} {fr : Nat × Nat} (h : w.ownsRow B t k v n ys) (hg : w.grownBy w' v.ownBlock) (hp : w.heap[p]? = some (.cells cs t' fr)) (ht : t ≠ t') : w'.heap[p]? = some (.cells cs t' fr) := by
  rw [hg.block p (blk_lt hp) ?_]
  · exact hp
  · intro e
    rcases h.2 with ⟨rfl, _⟩ | ⟨g, cap, cur, rfl, _, hh, _⟩
    · cases e
    · simp [Value.ownBlock] at e
      subst e
      rw [hp] at hh
      injection hh with hh
      injection hh with _ h2
      exact ht h2.symm
theorem er_lt {W : World} {a : Option Addr} {l : List Ev} (h : ER W a l) : ∀ b off, a = some ⟨b, off, none⟩ → l ≠ [] → b < W.heap.size := by
  intro b off e hl
  rcases h with h | ⟨b', off', e', hc⟩
  · exact absurd h hl
  · rw [e] at e'
    injection e' with e'
    injection e' with e1 e2
    subst e1 e2
    exact lt_of_cell (hc 0 (List.length_pos_iff.2 hl)).1
theorem nr_lt {W : World} {a : Option Addr} {l : List Int} (h : NR W a l) : ∀ b off, a = some ⟨b, off, none⟩ → l ≠ [] → b < W.heap.size := by
  intro b off e hl
  rcases h with h | ⟨b', off', e', hc⟩
  · exact absurd h hl
  · rw [e] at e'
    injection e' with e'
    injection e' with e1 e2
    subst e1 e2
    exact lt_of_cell (hc 0 (List.length_pos_iff.2 hl))
theorem er_row {W : World} {a : Option Addr} {l : List Ev} {g : Nat} {cs : Array Value} (h : ER W a l) (hne : ∀ b off, a = some ⟨b, off, none⟩ → l ≠ [] → b ≠ g) : ER (W.setRow g cs) a l := by
  rcases h with h | ⟨b, off, rfl, hc⟩
  · exact .inl h
  · by_cases hl : l = []
    · exact .inl hl
    · have hk : (W.setRow g cs).heap[b]? = W.heap[b]? := setRow_other _ _ _ _ (hne b off rfl hl)
      refine .inr ⟨b, off, rfl, fun j hj => ?_⟩
      obtain ⟨h0, h1, h2, h3, h4⟩ := hc j hj
      exact ⟨by rw [cell_of hk]; exact h0, by rw [cell_of hk]; exact h1, by rw [cell_of hk]; exact h2, by rw [cell_of hk]; exact h3, by rw [cell_of hk]; exact h4⟩
theorem nr_row {W : World} {a : Option Addr} {l : List Int} {g : Nat} {cs : Array Value} (h : NR W a l) (hne : ∀ b off, a = some ⟨b, off, none⟩ → l ≠ [] → b ≠ g) : NR (W.setRow g cs) a l := by
  rcases h with h | ⟨b, off, rfl, hc⟩
  · exact .inl h
  · by_cases hl : l = []
    · exact .inl hl
    · have hk : (W.setRow g cs).heap[b]? = W.heap[b]? := setRow_other _ _ _ _ (hne b off rfl hl)
      exact .inr ⟨b, off, rfl, fun j hj => by rw [cell_of hk]; exact hc j hj⟩
theorem play_begins (s : Syst) (picks more : List Int) : min picks.length (play s picks).2.2.evs.length ≤ (play s (picks ++ more)).2.2.evs.length ∧ (∀ k, k < min picks.length (play s picks).2.2.evs.length → (play s (picks ++ more)).2.2.evs.getD k ⟨0, 0, 0, 0, false⟩ = (play s picks).2.2.evs.getD k ⟨0, 0, 0, 0, false⟩) ∧ ((play s picks).2.2.evs.length ≤ picks.length → play s (picks ++ more) = play s picks) := by
  have h := run_begins s picks more 40001 (first s) (by omega) (by show 0 ≤ _; omega)
  unfold play
  rcases h with ⟨e, h⟩ | ⟨h, l, hl, l1, l2, e1, e2⟩
  · rw [← e]
    exact ⟨by omega, fun _ _ => rfl, fun _ => rfl⟩
  · refine ⟨by rw [e2, List.length_append]; omega, fun k hk => ?_, fun h' => absurd h' (by omega)⟩
    have hk' : k < l.length := by omega
    rw [e1, e2, List.getD_eq_getElem?_getD, List.getD_eq_getElem?_getD, List.getElem?_append_left hk', List.getElem?_append_left hk']
set_option maxRecDepth 100000 in
set_option maxHeartbeats 4000000 in
theorem beginsW (hP : PPlay) (hF : PPlayF) (s : Syst) (pa : Option Addr) (pc : Nat) (ra : Option Addr) (rc : Nat) (pka : Option Addr) (pkc : Nat) (picks : List Int) (mka : Option Addr) (mkc : Nat) (more : List Int) (w : World) (hs : SyI w s pa ra) (hp : PkI w pka pkc picks) (hm : PkI w mka mkc more) (hll : picks.length + more.length ≤ 17592186043904) :
    Calls Try.prog 4 #[.agg (syC s pa pc ra rc), .slice pka picks.length pkc, .slice mka more.length mkc] w fun e w' => e = .returned (.bool true) ∧ Below w.heap.size w w' := by
  have HPm : Hid (∀ W a c, SyI W s pa ra → PkI W a c (picks ++ more) → Calls Try.prog 12 #[.agg (syC s pa pc ra rc), .slice a (picks ++ more).length c] W (PlaF W s (picks ++ more))) := fun W a c hW hW2 => hF s pa pc ra rc a c (picks ++ more) W hW hW2
  unfold syC at HPm
  have HMk0 := TW.hide hm
  have HPl : Hid (∀ W, SyI W s pa ra → PkI W pka pkc picks → Calls Try.prog 12 #[.agg (syC s pa pc ra rc), .slice pka picks.length pkc] W (PlaP W s picks)) := fun W hW hW2 => hP s pa pc ra rc pka pkc picks W hW hW2
  unfold syC at HPl
  have HPk := TW.hide hp
  have HVd : Hid (∀ W, SyI W s pa ra → Calls Try.prog 10 #[.agg #[.slice pa s.progs.length pc, .slice ra s.rooms.length rc, .int .i64 s.groups, .int .i64 s.locks, .int .i64 s.cells]] W (RiP (Ok s) W)) := fun W hW => rvalid13 s pa pc ra rc _ _ W hW.sm rfl rfl hW.pn hW.rn hW.pl
  unfold syC
  have hA : Below w.heap.size w (w.alloc (.cells #[.slice pa s.progs.length pc, .slice ra s.rooms.length rc, .int .i64 s.groups, .int .i64 s.locks, .int .i64 s.cells] 25)) := (Below.refl _ _).alloc (Nat.le_refl _) _
  have N1 : Hid ((w.alloc (.cells #[.slice pa s.progs.length pc, .slice ra s.rooms.length rc, .int .i64 s.groups, .int .i64 s.locks, .int .i64 s.cells] 25)).heap[w.heap.size]? = some (.cells #[.slice pa s.progs.length pc, .slice ra s.rooms.length rc, .int .i64 s.groups, .int .i64 s.locks, .int .i64 s.cells] 25 (0, 0))) := heap_alloc_new w _
  have HBV := TW.hide hA
  clear hA
  go_enter Try.func4, Try.ntmps4
  refine wp_seq_k fun K hK => ?_
  have HK := TW.hide hK
  clear hK
  go_wp2
  refine HK.out _ _ ?_
  clear HK K
  generalize World.alloc _ _ = V at *
  have HSy := TW.hide (hs.below HBV.out)
  obtain ⟨s0, s1, s2, s3, s4⟩ := cellsY5 N1.out
  have HPk1 := TW.hide (HPk.out.below HBV.out)
  clear HPk
  refine wp_seq_k fun K hK => ?_
  have HK := TW.hide hK
  clear hK
  go_wp2_with fail
  refine (awake_ hP _).mono ?_
  rintro e8 w8 ⟨rfl, hb⟩
  have HSy8 := TW.hide (HSy.out.below hb)
  have HPk8 := TW.hide (HPk1.out.below hb)
  have N8 := TW.hide (blk_keep N1.out hb)
  have HB8 : Hid (Below w.heap.size w w8) := HBV.out.trans (hb.mono HBV.out.size)
  clear hb HSy HPk1 N1 HBV s0 s1 s2 s3 s4
  go_wp2
  refine HK.out _ _ ?_
  clear HK
  obtain ⟨s0, s1, s2, s3, s4⟩ := cellsY5 N8.out
  refine wp_seq_k fun K hK => ?_
  have HK := TW.hide hK
  clear hK
  go_wp2_with fail
  refine (HVd.out _ HSy8.out).mono ?_
  rintro e3 w3 ⟨b, rfl, hb1, hb⟩
  have HSy3 := TW.hide (HSy8.out.below hb)
  have HPk3 := TW.hide (HPk8.out.below hb)
  have N3 := TW.hide (blk_keep N8.out hb)
  have HB3 : Hid (Below w.heap.size w w3) := HB8.out.trans (hb.mono HB8.out.size)
  clear hb HSy8 HPk8 N8 HB8 s0 s1 s2 s3 s4
  cases b with
  | false =>
    clear hb1
    go_wp2
    go_ret
    exact ⟨rfl, HB3.out⟩
  | true =>
  have HO : Hid (Ok s) := hb1.1 rfl
  clear hb1
  go_wp2
  refine HK.out _ _ ?_
  clear HK
  obtain ⟨s0, s1, s2, s3, s4⟩ := cellsY5 N3.out
  refine wp_seq_k fun K hK => ?_
  have HK := TW.hide hK
  clear hK
  go_wp2_with fail
  refine (HPl.out _ HSy3.out HPk3.out).mono ?_
  rintro e6 w6 ⟨cs, x, r, rfl, hr, hb, hx1, hx2⟩
  obtain ⟨rfl, rfl⟩ := hx1 HO.out
  obtain ⟨ea, ec, ca, cc, rfl, hEv, hCe⟩ := hr
  have HRn : Hid ((Mc.play s picks).2.2.evs.length ≤ 40000 ∧ (Mc.play s picks).2.2.cells.length ≤ 64) := ⟨play_len s picks, play_cells HO.out picks⟩
  have hb7 : Below w3.heap.size w3 (w6.alloc (.cells #[.int .i64 (Mc.play s picks).1, .int .i64 (Mc.play s picks).2.1, .slice ea (Mc.play s picks).2.2.evs.length ec, .int .i64 ((Mc.play s picks).2.2.rns.length : Int), .slice ca (Mc.play s picks).2.2.cells.length cc] 32)) := hb.alloc hb.size _
  have hb76 : Below w6.heap.size w6 (w6.alloc (.cells #[.int .i64 (Mc.play s picks).1, .int .i64 (Mc.play s picks).2.1, .slice ea (Mc.play s picks).2.2.evs.length ec, .int .i64 ((Mc.play s picks).2.2.rns.length : Int), .slice ca (Mc.play s picks).2.2.cells.length cc] 32)) := (Below.refl _ _).alloc (Nat.le_refl _) _
  have HEv := TW.hide (hEv.below hb76)
  have HCe := TW.hide (hCe.below hb76)
  have HSy := TW.hide (HSy3.out.below hb7)
  have HPk := TW.hide (HPk3.out.below hb7)
  have NS := TW.hide (blk_keep N3.out hb7)
  have HB : Hid (Below w.heap.size w (w6.alloc (.cells #[.int .i64 (Mc.play s picks).1, .int .i64 (Mc.play s picks).2.1, .slice ea (Mc.play s picks).2.2.evs.length ec, .int .i64 ((Mc.play s picks).2.2.rns.length : Int), .slice ca (Mc.play s picks).2.2.cells.length cc] 32))) := HB3.out.trans (hb7.mono HB3.out.size)
  have MR : Hid ((w6.alloc (.cells #[.int .i64 (Mc.play s picks).1, .int .i64 (Mc.play s picks).2.1, .slice ea (Mc.play s picks).2.2.evs.length ec, .int .i64 ((Mc.play s picks).2.2.rns.length : Int), .slice ca (Mc.play s picks).2.2.cells.length cc] 32)).heap[w6.heap.size]? = some (.cells #[.int .i64 (Mc.play s picks).1, .int .i64 (Mc.play s picks).2.1, .slice ea (Mc.play s picks).2.2.evs.length ec, .int .i64 ((Mc.play s picks).2.2.rns.length : Int), .slice ca (Mc.play s picks).2.2.cells.length cc] 32 (0, 0))) := heap_alloc_new w6 _
  clear hEv hCe hx1 hx2 hb hb7 hb76 HSy3 HPk3 N3 HB3 s0 s1 s2 s3 s4
  go_wp2
  refine HK.out _ _ ?_
  clear HK
  generalize World.alloc _ _ = X at *
  generalize w6.heap.size = bu at *
  have HMk := TW.hide (HMk0.out.below HB.out)
  have hpl := HPk.out.ln
  clear HMk0 HPl
  refine wp_seq_k fun KZ hKZ => ?_
  have HR : Hid (∀ (bv : Nat) (W : World) (fa : Option Addr) (fc : Nat) (da : Option Addr) (dc : Nat) {u4 u5 u11 u12 u13 u14 u15 u16 u17 u18 u19 u20 u21 u22 u23 u24 u25 u26 u27 u28 u29 u30 u31 u32 u33 u34 u35 u36 u37 u38 u39 u40 u41 u42 u43 u44 u45 u46 u47 u48 u49 u50 u51 u52 u53 u54 u55 u56 u57 u58 u59 u60 u61 u62 u63 u64 u65 u66 u67 u68 u69 u70 u71 u72 u73 u74 u75 u76 u77 : Value}, Below X.heap.size X W → W.heap[bv]? = some (.cells #[.int .i64 (Mc.play s (picks ++ more)).1, .int .i64 (Mc.play s (picks ++ more)).2.1, .slice fa (Mc.play s (picks ++ more)).2.2.evs.length fc, .int .i64 ((Mc.play s (picks ++ more)).2.2.rns.length : Int), .slice da (Mc.play s (picks ++ more)).2.2.cells.length dc] 32 (0, 0)) → ER W fa (Mc.play s (picks ++ more)).2.2.evs → NR W da (Mc.play s (picks ++ more)).2.2.cells → KZ { tmps := #[.agg #[.slice pa s.progs.length pc, .slice ra s.rooms.length rc, .int .i64 s.groups, .int .i64 s.locks, .int .i64 s.cells], .slice pka picks.length pkc, .slice mka more.length mkc, .pointer (some ⟨w.heap.size, 0, none⟩), u4, u5, .bool false, .pointer (some ⟨bu, 0, none⟩), .int .i64 0, .pointer (some ⟨bv, 0, none⟩), .int .i64 0, u11, u12, u13, u14, u15, u16, u17, u18, u19, u20, u21, u22, u23, u24, u25, u26, u27, u28, u29, u30, u31, u32, u33, u34, u35, u36, u37, u38, u39, u40, u41, u42, u43, u44, u45, u46, u47, u48, u49, u50, u51, u52, u53, u54, u55, u56, u57, u58, u59, u60, u61, u62, u63, u64, u65, u66, u67, u68, u69, u70, u71, u72, u73, u74, u75, u76, u77], defers := [] } W) := by
    refine TW.hide ?_
    intro bv W fa fc da dc u4 u5 u11 u12 u13 u14 u15 u16 u17 u18 u19 u20 u21 u22 u23 u24 u25 u26 u27 u28 u29 u30 u31 u32 u33 u34 u35 u36 u37 u38 u39 u40 u41 u42 u43 u44 u45 u46 u47 u48 u49 u50 u51 u52 u53 u54 u55 u56 u57 u58 u59 u60 u61 u62 u63 u64 u65 u66 u67 u68 u69 u70 u71 u72 u73 u74 u75 u76 u77 hb hq he hn
    have HBW := TW.hide hb
    have MR' := TW.hide (blk_keep MR.out hb)
    have MQ := TW.hide hq
    obtain ⟨hmin, hsame, hall⟩ := play_begins s picks more
    have HAl : Hid ((play s picks).2.2.evs.length ≤ picks.length → ∀ W', Below W.heap.size W W' → Calls Try.prog 13 #[.agg #[.int .i64 (Mc.play s picks).1, .int .i64 (Mc.play s picks).2.1, .slice ea (Mc.play s picks).2.2.evs.length ec, .int .i64 ((Mc.play s picks).2.2.rns.length : Int), .slice ca (Mc.play s picks).2.2.cells.length cc], .agg #[.int .i64 (Mc.play s (picks ++ more)).1, .int .i64 (Mc.play s (picks ++ more)).2.1, .slice fa (Mc.play s (picks ++ more)).2.2.evs.length fc, .int .i64 ((Mc.play s (picks ++ more)).2.2.rns.length : Int), .slice da (Mc.play s (picks ++ more)).2.2.cells.length dc]] W' fun e w' => e = .returned (.bool true) ∧ Below W'.heap.size W' w') := fun hle W' hW' => by
      have e := hall hle
      refine alike_same (play s picks) _ _ W' ⟨ea, ec, ca, cc, rfl, (HEv.out.below hb).below hW', (HCe.out.below hb).below hW'⟩ ⟨fa, fc, da, dc, ?_, ?_, ?_⟩ (by have := HRn.out.1; omega) (by have := HRn.out.2; omega)
      · rw [e]
      · rw [← e]; exact he.below hW'
      · rw [← e]; exact hn.below hW'
    have HX : Hid (∀ k W', k < min picks.length (play s picks).2.2.evs.length → Below W.heap.size W W' → ∃ b1 o1 b2 o2 q0 q1 q2 q3 q4, ea = some ⟨b1, o1, none⟩ ∧ fa = some ⟨b2, o2, none⟩ ∧ W'.cell? ⟨b1, o1 + k * 5, none⟩ = some (.int .i64 q0) ∧ W'.cell? ⟨b1, o1 + k * 5 + 1, none⟩ = some (.int .i64 q1) ∧ W'.cell? ⟨b1, o1 + k * 5 + 2, none⟩ = some (.int .i64 q2) ∧ W'.cell? ⟨b1, o1 + k * 5 + 3, none⟩ = some (.int .i64 q3) ∧ W'.cell? ⟨b1, o1 + k * 5 + 4, none⟩ = some (.bool q4) ∧ W'.cell? ⟨b2, o2 + k * 5, none⟩ = some (.int .i64 q0) ∧ W'.cell? ⟨b2, o2 + k * 5 + 1, none⟩ = some (.int .i64 q1) ∧ W'.cell? ⟨b2, o2 + k * 5 + 2, none⟩ = some (.int .i64 q2) ∧ W'.cell? ⟨b2, o2 + k * 5 + 3, none⟩ = some (.int .i64 q3) ∧ W'.cell? ⟨b2, o2 + k * 5 + 4, none⟩ = some (.bool q4)) := fun k W' hk hW => by
      have ek := hsame k hk
      have h1 := HEv.out.below hb
      rcases h1 with h | ⟨b1, o1, rfl, hc1⟩
      · rw [h] at hk; simp at hk
      rcases he with h | ⟨b2, o2, rfl, hc2⟩
      · have h0 : (play s (picks ++ more)).2.2.evs.length = 0 := by rw [h]; rfl
        omega
      obtain ⟨x0, x1, x2, x3, x4⟩ := hc1 k (by omega)
      obtain ⟨y0, y1, y2, y3, y4⟩ := hc2 k (by omega)
      rw [ek] at y0 y1 y2 y3 y4
      exact ⟨b1, o1, b2, o2, _, _, _, _, _, rfl, rfl, keepC hW x0, keepC hW x1, keepC hW x2, keepC hW x3, keepC hW x4, keepC hW y0, keepC hW y1, keepC hW y2, keepC hW y3, keepC hW y4⟩
    have HKZ := TW.hide hKZ
    have HMin := TW.hide hmin
    clear hKZ hsame hall hq he hn hmin MR HEv HCe HPm HVd
    refine HKZ.out _ _ ?_
    clear HKZ
    have hpl' := hpl
    have hn1 := HRn.out.1
    have hmn := HMin.out
    clear HMin
    generalize picks.length = P at *
    generalize (play s picks).2.2.evs.length = N at *
    generalize (play s (picks ++ more)).2.2.evs.length = N2 at *
    obtain ⟨s0, s1, s2, s3, s4⟩ := cellsY5 MR'.out
    obtain ⟨t0, t1, t2, t3, t4⟩ := cellsY5 MQ.out
    rcases Nat.lt_or_ge N P with hPN | hPN
    · have e9 : min P N = N := by omega
      rw [e9] at HX hmn
      have hz : ((N : Int)) < (P : Int) := by omega
      have hy : ¬ ((N2 : Int)) < (N : Int) := by omega
      go_wp2
      go_loopw [12] (fun i wr => ∃ k : Nat, k ≤ N ∧ i = .int .i64 (k : Int) ∧ Hid (Below W.heap.size W wr)) (fun i wr => N - (intOf i).toNat)
      case atStart => exact ⟨0, Nat.zero_le _, rfl, TW.hide (Below.refl _ _)⟩
      case round =>
        obtain ⟨k, hk, rfl, HBk⟩ := hrel
        have s0 := keepC HBk.out s0
        have s1 := keepC HBk.out s1
        have s2 := keepC HBk.out s2
        have s3 := keepC HBk.out s3
        have s4 := keepC HBk.out s4
        have t0 := keepC HBk.out t0
        have t1 := keepC HBk.out t1
        have t2 := keepC HBk.out t2
        have t3 := keepC HBk.out t3
        have t4 := keepC HBk.out t4
        by_cases hlt : k < N
        · obtain ⟨b1, o1, b2, o2, q0, q1, q2, q3, q4, rfl, rfl, x0, x1, x2, x3, x4, y0, y1, y2, y3, y4⟩ := HX.out k wr hlt HBk.out
          have hk1 : (k : Int) < (N : Int) := by omega
          have hk2 : (k : Int) < (N : Int) := by omega
          have hk3 : (k : Int) < (N2 : Int) := by omega
          have hk0 : (0 : Int) ≤ (k : Int) := by omega
          go_wp2
          go_quiet (fail)
          go_wp2
          go_roundw
          case rel => exact ⟨k + 1, hlt, by go_num, TW.hide (below_drewN HBk.out _)⟩
          case measure => simp [intOf]; omega
        · have hk1 : ¬ (k : Int) < (N : Int) := by omega
          have kg : ¬ ((P : Int)) < (N : Int) := by omega
          have kg' : ((N : Int)) ≤ (P : Int) := by omega
          go_wp2_with fail
          refine (HAl.out (by omega) _ HBk.out).mono ?_
          rintro e1 w1 ⟨rfl, hb1⟩
          go_wp2
          go_ret
          exact ⟨rfl, HB.out.trans ((HBW.out.trans ((HBk.out.trans (hb1.mono HBk.out.size)).mono HBW.out.size)).mono HB.out.size)⟩
    · have e9 : min P N = P := by omega
      rw [e9] at HX hmn
      have hz : ¬ ((N : Int)) < (P : Int) := by omega
      have hz' : ((P : Int)) ≤ (N : Int) := by omega
      have hy : ¬ ((N2 : Int)) < (P : Int) := by omega
      go_wp2
      go_loopw [12] (fun i wr => ∃ k : Nat, k ≤ P ∧ i = .int .i64 (k : Int) ∧ Hid (Below W.heap.size W wr)) (fun i wr => P - (intOf i).toNat)
      case atStart => exact ⟨0, Nat.zero_le _, rfl, TW.hide (Below.refl _ _)⟩
      case round =>
        obtain ⟨k, hk, rfl, HBk⟩ := hrel
        have s0 := keepC HBk.out s0
        have s1 := keepC HBk.out s1
        have s2 := keepC HBk.out s2
        have s3 := keepC HBk.out s3
        have s4 := keepC HBk.out s4
        have t0 := keepC HBk.out t0
        have t1 := keepC HBk.out t1
        have t2 := keepC HBk.out t2
        have t3 := keepC HBk.out t3
        have t4 := keepC HBk.out t4
        by_cases hlt : k < P
        · obtain ⟨b1, o1, b2, o2, q0, q1, q2, q3, q4, rfl, rfl, x0, x1, x2, x3, x4, y0, y1, y2, y3, y4⟩ := HX.out k wr hlt HBk.out
          have hk1 : (k : Int) < (P : Int) := by omega
          have hk2 : (k : Int) < (N : Int) := by omega
          have hk3 : (k : Int) < (N2 : Int) := by omega
          have hk0 : (0 : Int) ≤ (k : Int) := by omega
          go_wp2
          go_quiet (fail)
          go_wp2
          go_roundw
          case rel => exact ⟨k + 1, hlt, by go_num, TW.hide (below_drewN HBk.out _)⟩
          case measure => simp [intOf]; omega
        · have hk1 : ¬ (k : Int) < (P : Int) := by omega
          rcases Nat.lt_or_ge P N with hg | hg
          · have kg : ((P : Int)) < (N : Int) := by omega
            clear HAl
            go_wp2
            go_ret
            exact ⟨rfl, HB.out.trans ((HBW.out.trans (HBk.out.mono HBW.out.size)).mono HB.out.size)⟩
          · have kg : ¬ ((P : Int)) < (N : Int) := by omega
            have kg' : ((N : Int)) ≤ (P : Int) := by omega
            go_wp2_with fail
            refine (HAl.out (by omega) _ HBk.out).mono ?_
            rintro e1 w1 ⟨rfl, hb1⟩
            go_wp2
            go_ret
            exact ⟨rfl, HB.out.trans ((HBW.out.trans ((HBk.out.trans (hb1.mono HBk.out.size)).mono HBW.out.size)).mono HB.out.size)⟩
  clear hKZ
  have HXX : Hid (Below X.heap.size X X) := Below.refl _ _
  refine wp_region_noPanic ?_
  refine RG.wp_region_L (fun Z => True) (fun Z => Below X.heap.size X Z) [] (by kernel_rfl) ?_
  refine RG.wpL_any fun Ya hY => ?_
  have HTa : Hid (Below X.heap.size X Ya) := by rw [hY]; exact below_drewN HXX.out 1
  clear hY
  refine RG.wpL_take (fuel := 10) (a' := ?Aa) [0, 2, 4] (by kernel_rfl) (by kernel_rfl) (fun _ _ _ _ _ h => h) HTa.out (fun _ => trivial) ?ra ?_
  case ra =>
    refine RG.RunsIf.weak (v := ?_) (by rfl) (by rfl) (fun Z hT => ?_) ?_
    rotate_left
    · have y := blk_keep NS.out hT; obtain ⟨y0, y1, y2, y3, y4⟩ := cellsY5 y
      go_simp
      rfl
    simp only [Act.put, List.setIfInBounds_toArray, List.set_cons_zero, List.set_cons_succ, List.getElem_toArray, List.getElem_cons_zero, List.getElem_cons_succ]
    refine RG.RunsIf.weak (v := ?_) (by rfl) (by rfl) (fun Z hT => ?_) ?_
    rotate_left
    · go_simp
      rfl
    simp only [Act.put, List.setIfInBounds_toArray, List.set_cons_zero, List.set_cons_succ, List.getElem_toArray, List.getElem_cons_zero, List.getElem_cons_succ]
    refine RG.RunsIf.weak (v := ?_) (by rfl) (by rfl) (fun Z hT => ?_) ?_
    rotate_left
    · go_simp
      rfl
    simp only [Act.put, List.setIfInBounds_toArray, List.set_cons_zero, List.set_cons_succ, List.getElem_toArray, List.getElem_cons_zero, List.getElem_cons_succ]
    exact RG.RunsIf.nil
  refine RG.wpL_pair (i := 1) (j := 10) (by kernel_rfl) (by rfl) (by rfl) (by rfl) (by rfl) (fun KX hK => ?_) (fun KX hK => ?_)
  · have HK := TW.hide hK
    clear hK
    have TWb1 : Hid (Below X.heap.size X (Ya.alloc (.cells #[] 3))) := HTa.out.alloc HTa.out.size _
    have HW : Hid ((Ya.alloc (.cells #[] 3)).ownsRow X.heap.size 3 1 (.slice (some ⟨Ya.heap.size, 0, none⟩) 0 0) 0 []) := ⟨rfl, .inr ⟨Ya.heap.size, 0, #[], rfl, HTa.out.size, heap_alloc_new _ _, Nat.le_refl _, Nat.zero_le _, rfl, rfl⟩⟩
    go_simp
    refine HK.out _ _ TWb1.out (fun _ => trivial) ?_
    clear HK KX HTa
    generalize Ya.alloc (.cells #[] 3) = Wb1 at *
    generalize Ya.heap.size = gl at *
    try simp only [Act.put, List.setIfInBounds_toArray, List.set_cons_zero, List.set_cons_succ, List.getElem_toArray, List.getElem_cons_zero, List.getElem_cons_succ]
    refine RG.wpL_pair (i := 3) (j := 10) (by kernel_rfl) (by rfl) (by rfl) (by rfl) (by rfl) (fun KX hK => ?_) (fun KX hK => ?_)
    · have HK := TW.hide hK
      clear hK
      refine wp_app_ints (.tmp 26) (.tmp 27) (by rfl) X.heap.size _ _ _ (by rfl) HW.out pka pkc picks picks.length rfl (by rfl) (HPk.out.nr.below TWb1.out) HPk.out.nn (by omega) TWb1.out.size ?_
      intro vx Wb2 hown hgrow
      have TWb2 : Hid (Below X.heap.size X Wb2) := TWb1.out.grown hgrow TWb1.out.size (own_ge HW.out)
      clear HW
      have HW := TW.hide hown
      refine HK.out _ _ TWb2.out (fun _ => trivial) ?_
      clear HK KX hown hgrow TWb1
      try simp only [Act.put, List.setIfInBounds_toArray, List.set_cons_zero, List.set_cons_succ, List.getElem_toArray, List.getElem_cons_zero, List.getElem_cons_succ]
      refine RG.wpL_pair (i := 5) (j := 10) (by kernel_rfl) (by rfl) (by rfl) (by rfl) (by rfl) (fun KX hK => ?_) (fun KX hK => ?_)
      · have HK := TW.hide hK
        clear hK
        refine wp_app_ints (.tmp 28) (.tmp 29) (by rfl) X.heap.size _ _ _ (by rfl) HW.out mka mkc more more.length rfl (by rfl) (HMk.out.nr.below TWb2.out) HMk.out.nn (by omega) TWb2.out.size ?_
        intro vx Wb3 hown hgrow
        have TWb3 : Hid (Below X.heap.size X Wb3) := TWb2.out.grown hgrow TWb2.out.size (own_ge HW.out)
        clear HW
        have HW := TW.hide hown
        refine HK.out _ _ TWb3.out (fun _ => trivial) ?_
        clear HK KX hown hgrow TWb2
        try simp only [Act.put, List.setIfInBounds_toArray, List.set_cons_zero, List.set_cons_succ, List.getElem_toArray, List.getElem_cons_zero, List.getElem_cons_succ]
        refine RG.wpL_pair (i := 6) (j := 10) (by kernel_rfl) (by rfl) (by rfl) (by rfl) (by rfl) (fun KX hK => ?_) (fun KX hK => ?_)
        · have HK := TW.hide hK
          clear hK
          have hw0 := HW.out
          simp only [List.nil_append, Nat.zero_add] at hw0
          obtain ⟨ja, jc, rfl, hj⟩ := pk_join hw0 HPk.out.i6 HMk.out.i6 hll
          clear hw0 HW
          rw [List.length_append] at HPm
          go_simp
          refine (HPm.out _ _ _ (HSy.out.below TWb3.out) hj).mono ?_
          rintro e6 Wb4 ⟨cs, x, r, rfl, hr, hb, hx1, hx2⟩
          obtain ⟨rfl, rfl⟩ := hx1 HO.out
          obtain ⟨fa, fc, da, dc, rfl, hE2, hC2, hf1, hf2⟩ := hr
          have TWb4 : Hid (Below X.heap.size X Wb4) := TWb3.out.trans (hb.mono TWb3.out.size)
          have HE2 := TW.hide hE2
          have HC2 := TW.hide hC2
          refine HK.out _ _ TWb4.out (fun _ => trivial) ?_
          clear HK KX hb hE2 hC2 hx1 hx2 hj hf1 hf2 TWb3
          try simp only [Act.put, List.setIfInBounds_toArray, List.set_cons_zero, List.set_cons_succ, List.getElem_toArray, List.getElem_cons_zero, List.getElem_cons_succ]
          refine RG.wpL_take (fuel := 3) (a' := ?Ab5) [7, 8, 9] (by kernel_rfl) (by kernel_rfl) (fun _ _ _ _ _ h => h) TWb4.out (fun _ => trivial) ?rb5 ?_
          case rb5 =>
            refine RG.RunsIf.weak (v := ?_) (by rfl) (by rfl) (fun Z hT => ?_) ?_
            rotate_left
            · go_simp
              rfl
            simp only [Act.put, List.setIfInBounds_toArray, List.set_cons_zero, List.set_cons_succ, List.getElem_toArray, List.getElem_cons_zero, List.getElem_cons_succ]
            refine RG.RunsIf.weak (v := ?_) (by rfl) (by rfl) (fun Z hT => ?_) ?_
            rotate_left
            · go_simp
              rfl
            simp only [Act.put, List.setIfInBounds_toArray, List.set_cons_zero, List.set_cons_succ, List.getElem_toArray, List.getElem_cons_zero, List.getElem_cons_succ]
            refine RG.RunsIf.weak (v := ?_) (by rfl) (by rfl) (fun Z hT => ?_) ?_
            rotate_left
            · go_simp
              rfl
            simp only [Act.put, List.setIfInBounds_toArray, List.set_cons_zero, List.set_cons_succ, List.getElem_toArray, List.getElem_cons_zero, List.getElem_cons_succ]
            exact RG.RunsIf.nil
          refine RG.wpL_step (i := 10) (by kernel_rfl) (by rfl) (by rfl) (fun KX hK => ?_)
          have HK := TW.hide hK
          clear hK
          have TWb6 : Hid (Below X.heap.size X (Wb4.alloc (.cells #[.int .i64 0, .int .i64 0, .slice none 0 0, .int .i64 0, .slice none 0 0] 32))) := TWb4.out.alloc TWb4.out.size _
          have NA : Hid ((Wb4.alloc (.cells #[.int .i64 0, .int .i64 0, .slice none 0 0, .int .i64 0, .slice none 0 0] 32)).heap[Wb4.heap.size]? = some (.cells #[.int .i64 0, .int .i64 0, .slice none 0 0, .int .i64 0, .slice none 0 0] 32 (0, 0))) := heap_alloc_new _ _
          have hgB := TWb4.out.size
          have hbA : Below Wb4.heap.size Wb4 (Wb4.alloc (.cells #[.int .i64 0, .int .i64 0, .slice none 0 0, .int .i64 0, .slice none 0 0] 32)) := (Below.refl _ _).alloc (Nat.le_refl _) _
          have HNE : Hid ((∀ b off, fa = some ⟨b, off, none⟩ → (Mc.play s (picks ++ more)).2.2.evs ≠ [] → b ≠ Wb4.heap.size) ∧ (∀ b off, da = some ⟨b, off, none⟩ → (Mc.play s (picks ++ more)).2.2.cells ≠ [] → b ≠ Wb4.heap.size)) := ⟨fun b off e h => Nat.ne_of_lt (er_lt HE2.out b off e h), fun b off e h => Nat.ne_of_lt (nr_lt HC2.out b off e h)⟩
          have HE3 := TW.hide (HE2.out.below hbA)
          have HC3 := TW.hide (HC2.out.below hbA)
          clear HE2 HC2
          have HE2 := HE3
          have HC2 := HC3
          clear HE3 HC3
          go_simp
          refine HK.out _ _ TWb6.out (fun _ => trivial) ?_
          clear HK KX TWb4 hbA
          generalize Wb4.alloc (.cells #[.int .i64 0, .int .i64 0, .slice none 0 0, .int .i64 0, .slice none 0 0] 32) = Wb6 at *
          generalize Wb4.heap.size = gA at *
          try simp only [Act.put, List.setIfInBounds_toArray, List.set_cons_zero, List.set_cons_succ, List.getElem_toArray, List.getElem_cons_zero, List.getElem_cons_succ]
          have T5 : Hid (Below X.heap.size X (Wb6.setRow gA #[.int .i64 (Mc.play s (picks ++ more)).1, .int .i64 (Mc.play s (picks ++ more)).2.1, .slice fa (Mc.play s (picks ++ more)).2.2.evs.length fc, .int .i64 ((Mc.play s (picks ++ more)).2.2.rns.length : Int), .slice da (Mc.play s (picks ++ more)).2.2.cells.length dc])) := below_setRow TWb6.out hgB
          have N5 := TW.hide (setRow_heap _ _ _ #[.int .i64 (Mc.play s (picks ++ more)).1, .int .i64 (Mc.play s (picks ++ more)).2.1, .slice fa (Mc.play s (picks ++ more)).2.2.evs.length fc, .int .i64 ((Mc.play s (picks ++ more)).2.2.rns.length : Int), .slice da (Mc.play s (picks ++ more)).2.2.cells.length dc] _ _ NA.out)
          have E5 : Hid (ER (Wb6.setRow gA #[.int .i64 (Mc.play s (picks ++ more)).1, .int .i64 (Mc.play s (picks ++ more)).2.1, .slice fa (Mc.play s (picks ++ more)).2.2.evs.length fc, .int .i64 ((Mc.play s (picks ++ more)).2.2.rns.length : Int), .slice da (Mc.play s (picks ++ more)).2.2.cells.length dc]) fa (Mc.play s (picks ++ more)).2.2.evs) := er_row HE2.out HNE.out.1
          have C5 : Hid (NR (Wb6.setRow gA #[.int .i64 (Mc.play s (picks ++ more)).1, .int .i64 (Mc.play s (picks ++ more)).2.1, .slice fa (Mc.play s (picks ++ more)).2.2.evs.length fc, .int .i64 ((Mc.play s (picks ++ more)).2.2.rns.length : Int), .slice da (Mc.play s (picks ++ more)).2.2.cells.length dc]) da (Mc.play s (picks ++ more)).2.2.cells) := nr_row HC2.out HNE.out.2
          refine RG.wpL_step (i := 11) (by kernel_rfl) (by rfl) (by rfl) (fun KX hK => ?_)
          have HK := TW.hide hK
          clear hK
          refine wp_store_row 32 _ _ (by rfl) gA #[.int .i64 (Mc.play s (picks ++ more)).1, .int .i64 (Mc.play s (picks ++ more)).2.1, .slice fa (Mc.play s (picks ++ more)).2.2.evs.length fc, .int .i64 ((Mc.play s (picks ++ more)).2.2.rns.length : Int), .slice da (Mc.play s (picks ++ more)).2.2.cells.length dc] (by rfl) (by rfl) 32 _ NA.out (by kernel_rfl) (by rfl) (by simp [Value.oneCell']) ?_
          simp only [Act.put, List.setIfInBounds_toArray, List.set_cons_zero, List.set_cons_succ, List.getElem_toArray, List.getElem_cons_zero, List.getElem_cons_succ]
          refine HK.out _ _ T5.out (fun _ => trivial) ?_
          clear HK KX HE2 HC2 HNE NA TWb6
          generalize Wb6.setRow gA #[.int .i64 (Mc.play s (picks ++ more)).1, .int .i64 (Mc.play s (picks ++ more)).2.1, .slice fa (Mc.play s (picks ++ more)).2.2.evs.length fc, .int .i64 ((Mc.play s (picks ++ more)).2.2.rns.length : Int), .slice da (Mc.play s (picks ++ more)).2.2.cells.length dc] = Yz at *
          refine RG.wpL_take (fuel := 0) (a' := ?Ab7) [12] (by kernel_rfl) (by kernel_rfl) (fun _ _ _ _ _ h => h) T5.out (fun _ => trivial) ?rb7 ?_
          case rb7 =>
            refine RG.RunsIf.weak (v := ?_) (by rfl) (by rfl) (fun Z hT => ?_) ?_
            rotate_left
            · go_simp
              rfl
            simp only [Act.put, List.setIfInBounds_toArray, List.set_cons_zero, List.set_cons_succ, List.getElem_toArray, List.getElem_cons_zero, List.getElem_cons_succ]
            exact RG.RunsIf.nil
          refine RG.wpL_done (by kernel_rfl) ?_ _
          refine NoPanic.normal ?_
          exact HR.out gA Yz fa fc da dc T5.out N5.out E5.out C5.out
        · have HK := TW.hide hK
          clear hK
          have TWb8 : Hid (Below X.heap.size X (Wb3.alloc (.cells #[.int .i64 0, .int .i64 0, .slice none 0 0, .int .i64 0, .slice none 0 0] 32))) := TWb3.out.alloc TWb3.out.size _
          have NA : Hid ((Wb3.alloc (.cells #[.int .i64 0, .int .i64 0, .slice none 0 0, .int .i64 0, .slice none 0 0] 32)).heap[Wb3.heap.size]? = some (.cells #[.int .i64 0, .int .i64 0, .slice none 0 0, .int .i64 0, .slice none 0 0] 32 (0, 0))) := heap_alloc_new _ _
          have hgB := TWb3.out.size
          have hbA : Below Wb3.heap.size Wb3 (Wb3.alloc (.cells #[.int .i64 0, .int .i64 0, .slice none 0 0, .int .i64 0, .slice none 0 0] 32)) := (Below.refl _ _).alloc (Nat.le_refl _) _
          have HW2 := TW.hide (own_belowI HW.out hbA)
          clear HW
          have HW := HW2
          clear HW2
          go_simp
          refine HK.out _ _ TWb8.out (fun _ => trivial) ?_
          clear HK KX TWb3 hbA
          generalize Wb3.alloc (.cells #[.int .i64 0, .int .i64 0, .slice none 0 0, .int .i64 0, .slice none 0 0] 32) = Wb8 at *
          generalize Wb3.heap.size = gA at *
          try simp only [Act.put, List.setIfInBounds_toArray, List.set_cons_zero, List.set_cons_succ, List.getElem_toArray, List.getElem_cons_zero, List.getElem_cons_succ]
          refine RG.wpL_step (i := 6) (by kernel_rfl) (by rfl) (by rfl) (fun KX hK => ?_)
          have HK := TW.hide hK
          clear hK
          have hw0 := HW.out
          simp only [List.nil_append, Nat.zero_add] at hw0
          obtain ⟨ja, jc, rfl, hj⟩ := pk_join hw0 HPk.out.i6 HMk.out.i6 hll
          clear hw0 HW
          rw [List.length_append] at HPm
          go_simp
          refine (HPm.out _ _ _ (HSy.out.below TWb8.out) hj).mono ?_
          rintro e6 Wb9 ⟨cs, x, r, rfl, hr, hb, hx1, hx2⟩
          obtain ⟨rfl, rfl⟩ := hx1 HO.out
          obtain ⟨fa, fc, da, dc, rfl, hE2, hC2, hf1, hf2⟩ := hr
          have TWb9 : Hid (Below X.heap.size X Wb9) := TWb8.out.trans (hb.mono TWb8.out.size)
          have HE2 := TW.hide hE2
          have HC2 := TW.hide hC2
          have HNE : Hid ((∀ b off, fa = some ⟨b, off, none⟩ → (Mc.play s (picks ++ more)).2.2.evs ≠ [] → b ≠ gA) ∧ (∀ b off, da = some ⟨b, off, none⟩ → (Mc.play s (picks ++ more)).2.2.cells ≠ [] → b ≠ gA)) := ⟨fun b off e _ => by have h1 : Wb8.heap.size ≤ b := hf1 _ e; have h2 := blk_lt NA.out; exact Nat.ne_of_gt (Nat.lt_of_lt_of_le h2 h1), fun b off e _ => by have h1 : Wb8.heap.size ≤ b := hf2 _ e; have h2 := blk_lt NA.out; exact Nat.ne_of_gt (Nat.lt_of_lt_of_le h2 h1)⟩
          have NB := TW.hide (blk_keep NA.out hb)
          clear NA
          have NA := NB
          clear NB
          refine HK.out _ _ TWb9.out (fun _ => trivial) ?_
          clear HK KX hb hE2 hC2 hx1 hx2 hj hf1 hf2 TWb8
          try simp only [Act.put, List.setIfInBounds_toArray, List.set_cons_zero, List.set_cons_succ, List.getElem_toArray, List.getElem_cons_zero, List.getElem_cons_succ]
          refine RG.wpL_take (fuel := 2) (a' := ?Ab10) [7, 8, 9] (by kernel_rfl) (by kernel_rfl) (fun _ _ _ _ _ h => h) TWb9.out (fun _ => trivial) ?rb10 ?_
          case rb10 =>
            refine RG.RunsIf.weak (v := ?_) (by rfl) (by rfl) (fun Z hT => ?_) ?_
            rotate_left
            · go_simp
              rfl
            simp only [Act.put, List.setIfInBounds_toArray, List.set_cons_zero, List.set_cons_succ, List.getElem_toArray, List.getElem_cons_zero, List.getElem_cons_succ]
            refine RG.RunsIf.weak (v := ?_) (by rfl) (by rfl) (fun Z hT => ?_) ?_
            rotate_left
            · go_simp
              rfl
            simp only [Act.put, List.setIfInBounds_toArray, List.set_cons_zero, List.set_cons_succ, List.getElem_toArray, List.getElem_cons_zero, List.getElem_cons_succ]
            refine RG.RunsIf.weak (v := ?_) (by rfl) (by rfl) (fun Z hT => ?_) ?_
            rotate_left
            · go_simp
              rfl
            simp only [Act.put, List.setIfInBounds_toArray, List.set_cons_zero, List.set_cons_succ, List.getElem_toArray, List.getElem_cons_zero, List.getElem_cons_succ]
            exact RG.RunsIf.nil
          have T5 : Hid (Below X.heap.size X (Wb9.setRow gA #[.int .i64 (Mc.play s (picks ++ more)).1, .int .i64 (Mc.play s (picks ++ more)).2.1, .slice fa (Mc.play s (picks ++ more)).2.2.evs.length fc, .int .i64 ((Mc.play s (picks ++ more)).2.2.rns.length : Int), .slice da (Mc.play s (picks ++ more)).2.2.cells.length dc])) := below_setRow TWb9.out hgB
          have N5 := TW.hide (setRow_heap _ _ _ #[.int .i64 (Mc.play s (picks ++ more)).1, .int .i64 (Mc.play s (picks ++ more)).2.1, .slice fa (Mc.play s (picks ++ more)).2.2.evs.length fc, .int .i64 ((Mc.play s (picks ++ more)).2.2.rns.length : Int), .slice da (Mc.play s (picks ++ more)).2.2.cells.length dc] _ _ NA.out)
          have E5 : Hid (ER (Wb9.setRow gA #[.int .i64 (Mc.play s (picks ++ more)).1, .int .i64 (Mc.play s (picks ++ more)).2.1, .slice fa (Mc.play s (picks ++ more)).2.2.evs.length fc, .int .i64 ((Mc.play s (picks ++ more)).2.2.rns.length : Int), .slice da (Mc.play s (picks ++ more)).2.2.cells.length dc]) fa (Mc.play s (picks ++ more)).2.2.evs) := er_row HE2.out HNE.out.1
          have C5 : Hid (NR (Wb9.setRow gA #[.int .i64 (Mc.play s (picks ++ more)).1, .int .i64 (Mc.play s (picks ++ more)).2.1, .slice fa (Mc.play s (picks ++ more)).2.2.evs.length fc, .int .i64 ((Mc.play s (picks ++ more)).2.2.rns.length : Int), .slice da (Mc.play s (picks ++ more)).2.2.cells.length dc]) da (Mc.play s (picks ++ more)).2.2.cells) := nr_row HC2.out HNE.out.2
          refine RG.wpL_step (i := 11) (by kernel_rfl) (by rfl) (by rfl) (fun KX hK => ?_)
          have HK := TW.hide hK
          clear hK
          refine wp_store_row 32 _ _ (by rfl) gA #[.int .i64 (Mc.play s (picks ++ more)).1, .int .i64 (Mc.play s (picks ++ more)).2.1, .slice fa (Mc.play s (picks ++ more)).2.2.evs.length fc, .int .i64 ((Mc.play s (picks ++ more)).2.2.rns.length : Int), .slice da (Mc.play s (picks ++ more)).2.2.cells.length dc] (by rfl) (by rfl) 32 _ NA.out (by kernel_rfl) (by rfl) (by simp [Value.oneCell']) ?_
          simp only [Act.put, List.setIfInBounds_toArray, List.set_cons_zero, List.set_cons_succ, List.getElem_toArray, List.getElem_cons_zero, List.getElem_cons_succ]
          refine HK.out _ _ T5.out (fun _ => trivial) ?_
          clear HK KX HE2 HC2 HNE NA TWb9
          generalize Wb9.setRow gA #[.int .i64 (Mc.play s (picks ++ more)).1, .int .i64 (Mc.play s (picks ++ more)).2.1, .slice fa (Mc.play s (picks ++ more)).2.2.evs.length fc, .int .i64 ((Mc.play s (picks ++ more)).2.2.rns.length : Int), .slice da (Mc.play s (picks ++ more)).2.2.cells.length dc] = Yz at *
          refine RG.wpL_take (fuel := 0) (a' := ?Ab11) [12] (by kernel_rfl) (by kernel_rfl) (fun _ _ _ _ _ h => h) T5.out (fun _ => trivial) ?rb11 ?_
          case rb11 =>
            refine RG.RunsIf.weak (v := ?_) (by rfl) (by rfl) (fun Z hT => ?_) ?_
            rotate_left
            · go_simp
              rfl
            simp only [Act.put, List.setIfInBounds_toArray, List.set_cons_zero, List.set_cons_succ, List.getElem_toArray, List.getElem_cons_zero, List.getElem_cons_succ]
            exact RG.RunsIf.nil
          refine RG.wpL_done (by kernel_rfl) ?_ _
          refine NoPanic.normal ?_
          exact HR.out gA Yz fa fc da dc T5.out N5.out E5.out C5.out
      · have HK := TW.hide hK
        clear hK
        have TWb12 : Hid (Below X.heap.size X (Wb2.alloc (.cells #[.int .i64 0, .int .i64 0, .slice none 0 0, .int .i64 0, .slice none 0 0] 32))) := TWb2.out.alloc TWb2.out.size _
        have NA : Hid ((Wb2.alloc (.cells #[.int .i64 0, .int .i64 0, .slice none 0 0, .int .i64 0, .slice none 0 0] 32)).heap[Wb2.heap.size]? = some (.cells #[.int .i64 0, .int .i64 0, .slice none 0 0, .int .i64 0, .slice none 0 0] 32 (0, 0))) := heap_alloc_new _ _
        have hgB := TWb2.out.size
        have hbA : Below Wb2.heap.size Wb2 (Wb2.alloc (.cells #[.int .i64 0, .int .i64 0, .slice none 0 0, .int .i64 0, .slice none 0 0] 32)) := (Below.refl _ _).alloc (Nat.le_refl _) _
        have HW2 := TW.hide (own_belowI HW.out hbA)
        clear HW
        have HW := HW2
        clear HW2
        go_simp
        refine HK.out _ _ TWb12.out (fun _ => trivial) ?_
        clear HK KX TWb2 hbA
        generalize Wb2.alloc (.cells #[.int .i64 0, .int .i64 0, .slice none 0 0, .int .i64 0, .slice none 0 0] 32) = Wb12 at *
        generalize Wb2.heap.size = gA at *
        try simp only [Act.put, List.setIfInBounds_toArray, List.set_cons_zero, List.set_cons_succ, List.getElem_toArray, List.getElem_cons_zero, List.getElem_cons_succ]
        refine RG.wpL_step (i := 5) (by kernel_rfl) (by rfl) (by rfl) (fun KX hK => ?_)
        have HK := TW.hide hK
        clear hK
        refine wp_app_ints (.tmp 28) (.tmp 29) (by rfl) X.heap.size _ _ _ (by rfl) HW.out mka mkc more more.length rfl (by rfl) (HMk.out.nr.below TWb12.out) HMk.out.nn (by omega) TWb12.out.size ?_
        intro vx Wb13 hown hgrow
        have TWb13 : Hid (Below X.heap.size X Wb13) := TWb12.out.grown hgrow TWb12.out.size (own_ge HW.out)
        have NB := TW.hide (blk_grownT HW.out hgrow NA.out (by decide))
        clear NA
        have NA := NB
        clear NB
        clear HW
        have HW := TW.hide hown
        refine HK.out _ _ TWb13.out (fun _ => trivial) ?_
        clear HK KX hown hgrow TWb12
        try simp only [Act.put, List.setIfInBounds_toArray, List.set_cons_zero, List.set_cons_succ, List.getElem_toArray, List.getElem_cons_zero, List.getElem_cons_succ]
        refine RG.wpL_step (i := 6) (by kernel_rfl) (by rfl) (by rfl) (fun KX hK => ?_)
        have HK := TW.hide hK
        clear hK
        have hw0 := HW.out
        simp only [List.nil_append, Nat.zero_add] at hw0
        obtain ⟨ja, jc, rfl, hj⟩ := pk_join hw0 HPk.out.i6 HMk.out.i6 hll
        clear hw0 HW
        rw [List.length_append] at HPm
        go_simp
        refine (HPm.out _ _ _ (HSy.out.below TWb13.out) hj).mono ?_
        rintro e6 Wb14 ⟨cs, x, r, rfl, hr, hb, hx1, hx2⟩
        obtain ⟨rfl, rfl⟩ := hx1 HO.out
        obtain ⟨fa, fc, da, dc, rfl, hE2, hC2, hf1, hf2⟩ := hr
        have TWb14 : Hid (Below X.heap.size X Wb14) := TWb13.out.trans (hb.mono TWb13.out.size)
        have HE2 := TW.hide hE2
        have HC2 := TW.hide hC2
        have HNE : Hid ((∀ b off, fa = some ⟨b, off, none⟩ → (Mc.play s (picks ++ more)).2.2.evs ≠ [] → b ≠ gA) ∧ (∀ b off, da = some ⟨b, off, none⟩ → (Mc.play s (picks ++ more)).2.2.cells ≠ [] → b ≠ gA)) := ⟨fun b off e _ => by have h1 : Wb13.heap.size ≤ b := hf1 _ e; have h2 := blk_lt NA.out; exact Nat.ne_of_gt (Nat.lt_of_lt_of_le h2 h1), fun b off e _ => by have h1 : Wb13.heap.size ≤ b := hf2 _ e; have h2 := blk_lt NA.out; exact Nat.ne_of_gt (Nat.lt_of_lt_of_le h2 h1)⟩
        have NB := TW.hide (blk_keep NA.out hb)
        clear NA
        have NA := NB
        clear NB
        refine HK.out _ _ TWb14.out (fun _ => trivial) ?_
        clear HK KX hb hE2 hC2 hx1 hx2 hj hf1 hf2 TWb13
        try simp only [Act.put, List.setIfInBounds_toArray, List.set_cons_zero, List.set_cons_succ, List.getElem_toArray, List.getElem_cons_zero, List.getElem_cons_succ]
        refine RG.wpL_take (fuel := 2) (a' := ?Ab15) [7, 8, 9] (by kernel_rfl) (by kernel_rfl) (fun _ _ _ _ _ h => h) TWb14.out (fun _ => trivial) ?rb15 ?_
        case rb15 =>
          refine RG.RunsIf.weak (v := ?_) (by rfl) (by rfl) (fun Z hT => ?_) ?_
          rotate_left
          · go_simp
            rfl
          simp only [Act.put, List.setIfInBounds_toArray, List.set_cons_zero, List.set_cons_succ, List.getElem_toArray, List.getElem_cons_zero, List.getElem_cons_succ]
          refine RG.RunsIf.weak (v := ?_) (by rfl) (by rfl) (fun Z hT => ?_) ?_
          rotate_left
          · go_simp
            rfl
          simp only [Act.put, List.setIfInBounds_toArray, List.set_cons_zero, List.set_cons_succ, List.getElem_toArray, List.getElem_cons_zero, List.getElem_cons_succ]
          refine RG.RunsIf.weak (v := ?_) (by rfl) (by rfl) (fun Z hT => ?_) ?_
          rotate_left
          · go_simp
            rfl
          simp only [Act.put, List.setIfInBounds_toArray, List.set_cons_zero, List.set_cons_succ, List.getElem_toArray, List.getElem_cons_zero, List.getElem_cons_succ]
          exact RG.RunsIf.nil
        have T5 : Hid (Below X.heap.size X (Wb14.setRow gA #[.int .i64 (Mc.play s (picks ++ more)).1, .int .i64 (Mc.play s (picks ++ more)).2.1, .slice fa (Mc.play s (picks ++ more)).2.2.evs.length fc, .int .i64 ((Mc.play s (picks ++ more)).2.2.rns.length : Int), .slice da (Mc.play s (picks ++ more)).2.2.cells.length dc])) := below_setRow TWb14.out hgB
        have N5 := TW.hide (setRow_heap _ _ _ #[.int .i64 (Mc.play s (picks ++ more)).1, .int .i64 (Mc.play s (picks ++ more)).2.1, .slice fa (Mc.play s (picks ++ more)).2.2.evs.length fc, .int .i64 ((Mc.play s (picks ++ more)).2.2.rns.length : Int), .slice da (Mc.play s (picks ++ more)).2.2.cells.length dc] _ _ NA.out)
        have E5 : Hid (ER (Wb14.setRow gA #[.int .i64 (Mc.play s (picks ++ more)).1, .int .i64 (Mc.play s (picks ++ more)).2.1, .slice fa (Mc.play s (picks ++ more)).2.2.evs.length fc, .int .i64 ((Mc.play s (picks ++ more)).2.2.rns.length : Int), .slice da (Mc.play s (picks ++ more)).2.2.cells.length dc]) fa (Mc.play s (picks ++ more)).2.2.evs) := er_row HE2.out HNE.out.1
        have C5 : Hid (NR (Wb14.setRow gA #[.int .i64 (Mc.play s (picks ++ more)).1, .int .i64 (Mc.play s (picks ++ more)).2.1, .slice fa (Mc.play s (picks ++ more)).2.2.evs.length fc, .int .i64 ((Mc.play s (picks ++ more)).2.2.rns.length : Int), .slice da (Mc.play s (picks ++ more)).2.2.cells.length dc]) da (Mc.play s (picks ++ more)).2.2.cells) := nr_row HC2.out HNE.out.2
        refine RG.wpL_step (i := 11) (by kernel_rfl) (by rfl) (by rfl) (fun KX hK => ?_)
        have HK := TW.hide hK
        clear hK
        refine wp_store_row 32 _ _ (by rfl) gA #[.int .i64 (Mc.play s (picks ++ more)).1, .int .i64 (Mc.play s (picks ++ more)).2.1, .slice fa (Mc.play s (picks ++ more)).2.2.evs.length fc, .int .i64 ((Mc.play s (picks ++ more)).2.2.rns.length : Int), .slice da (Mc.play s (picks ++ more)).2.2.cells.length dc] (by rfl) (by rfl) 32 _ NA.out (by kernel_rfl) (by rfl) (by simp [Value.oneCell']) ?_
        simp only [Act.put, List.setIfInBounds_toArray, List.set_cons_zero, List.set_cons_succ, List.getElem_toArray, List.getElem_cons_zero, List.getElem_cons_succ]
        refine HK.out _ _ T5.out (fun _ => trivial) ?_
        clear HK KX HE2 HC2 HNE NA TWb14
        generalize Wb14.setRow gA #[.int .i64 (Mc.play s (picks ++ more)).1, .int .i64 (Mc.play s (picks ++ more)).2.1, .slice fa (Mc.play s (picks ++ more)).2.2.evs.length fc, .int .i64 ((Mc.play s (picks ++ more)).2.2.rns.length : Int), .slice da (Mc.play s (picks ++ more)).2.2.cells.length dc] = Yz at *
        refine RG.wpL_take (fuel := 0) (a' := ?Ab16) [12] (by kernel_rfl) (by kernel_rfl) (fun _ _ _ _ _ h => h) T5.out (fun _ => trivial) ?rb16 ?_
        case rb16 =>
          refine RG.RunsIf.weak (v := ?_) (by rfl) (by rfl) (fun Z hT => ?_) ?_
          rotate_left
          · go_simp
            rfl
          simp only [Act.put, List.setIfInBounds_toArray, List.set_cons_zero, List.set_cons_succ, List.getElem_toArray, List.getElem_cons_zero, List.getElem_cons_succ]
          exact RG.RunsIf.nil
        refine RG.wpL_done (by kernel_rfl) ?_ _
        refine NoPanic.normal ?_
        exact HR.out gA Yz fa fc da dc T5.out N5.out E5.out C5.out
    · have HK := TW.hide hK
      clear hK
      have TWb17 : Hid (Below X.heap.size X (Wb1.alloc (.cells #[.int .i64 0, .int .i64 0, .slice none 0 0, .int .i64 0, .slice none 0 0] 32))) := TWb1.out.alloc TWb1.out.size _
      have NA : Hid ((Wb1.alloc (.cells #[.int .i64 0, .int .i64 0, .slice none 0 0, .int .i64 0, .slice none 0 0] 32)).heap[Wb1.heap.size]? = some (.cells #[.int .i64 0, .int .i64 0, .slice none 0 0, .int .i64 0, .slice none 0 0] 32 (0, 0))) := heap_alloc_new _ _
      have hgB := TWb1.out.size
      have hbA : Below Wb1.heap.size Wb1 (Wb1.alloc (.cells #[.int .i64 0, .int .i64 0, .slice none 0 0, .int .i64 0, .slice none 0 0] 32)) := (Below.refl _ _).alloc (Nat.le_refl _) _
      have HW2 := TW.hide (own_belowI HW.out hbA)
      clear HW
      have HW := HW2
      clear HW2
      go_simp
      refine HK.out _ _ TWb17.out (fun _ => trivial) ?_
      clear HK KX TWb1 hbA
      generalize Wb1.alloc (.cells #[.int .i64 0, .int .i64 0, .slice none 0 0, .int .i64 0, .slice none 0 0] 32) = Wb17 at *
      generalize Wb1.heap.size = gA at *
      try simp only [Act.put, List.setIfInBounds_toArray, List.set_cons_zero, List.set_cons_succ, List.getElem_toArray, List.getElem_cons_zero, List.getElem_cons_succ]
      refine RG.wpL_step (i := 3) (by kernel_rfl) (by rfl) (by rfl) (fun KX hK => ?_)
      have HK := TW.hide hK
      clear hK
      refine wp_app_ints (.tmp 26) (.tmp 27) (by rfl) X.heap.size _ _ _ (by rfl) HW.out pka pkc picks picks.length rfl (by rfl) (HPk.out.nr.below TWb17.out) HPk.out.nn (by omega) TWb17.out.size ?_
      intro vx Wb18 hown hgrow
      have TWb18 : Hid (Below X.heap.size X Wb18) := TWb17.out.grown hgrow TWb17.out.size (own_ge HW.out)
      have NB := TW.hide (blk_grownT HW.out hgrow NA.out (by decide))
      clear NA
      have NA := NB
      clear NB
      clear HW
      have HW := TW.hide hown
      refine HK.out _ _ TWb18.out (fun _ => trivial) ?_
      clear HK KX hown hgrow TWb17
      try simp only [Act.put, List.setIfInBounds_toArray, List.set_cons_zero, List.set_cons_succ, List.getElem_toArray, List.getElem_cons_zero, List.getElem_cons_succ]
      refine RG.wpL_step (i := 5) (by kernel_rfl) (by rfl) (by rfl) (fun KX hK => ?_)
      have HK := TW.hide hK
      clear hK
      refine wp_app_ints (.tmp 28) (.tmp 29) (by rfl) X.heap.size _ _ _ (by rfl) HW.out mka mkc more more.length rfl (by rfl) (HMk.out.nr.below TWb18.out) HMk.out.nn (by omega) TWb18.out.size ?_
      intro vx Wb19 hown hgrow
      have TWb19 : Hid (Below X.heap.size X Wb19) := TWb18.out.grown hgrow TWb18.out.size (own_ge HW.out)
      have NB := TW.hide (blk_grownT HW.out hgrow NA.out (by decide))
      clear NA
      have NA := NB
      clear NB
      clear HW
      have HW := TW.hide hown
      refine HK.out _ _ TWb19.out (fun _ => trivial) ?_
      clear HK KX hown hgrow TWb18
      try simp only [Act.put, List.setIfInBounds_toArray, List.set_cons_zero, List.set_cons_succ, List.getElem_toArray, List.getElem_cons_zero, List.getElem_cons_succ]
      refine RG.wpL_step (i := 6) (by kernel_rfl) (by rfl) (by rfl) (fun KX hK => ?_)
      have HK := TW.hide hK
      clear hK
      have hw0 := HW.out
      simp only [List.nil_append, Nat.zero_add] at hw0
      obtain ⟨ja, jc, rfl, hj⟩ := pk_join hw0 HPk.out.i6 HMk.out.i6 hll
      clear hw0 HW
      rw [List.length_append] at HPm
      go_simp
      refine (HPm.out _ _ _ (HSy.out.below TWb19.out) hj).mono ?_
      rintro e6 Wb20 ⟨cs, x, r, rfl, hr, hb, hx1, hx2⟩
      obtain ⟨rfl, rfl⟩ := hx1 HO.out
      obtain ⟨fa, fc, da, dc, rfl, hE2, hC2, hf1, hf2⟩ := hr
      have TWb20 : Hid (Below X.heap.size X Wb20) := TWb19.out.trans (hb.mono TWb19.out.size)
      have HE2 := TW.hide hE2
      have HC2 := TW.hide hC2
      have HNE : Hid ((∀ b off, fa = some ⟨b, off, none⟩ → (Mc.play s (picks ++ more)).2.2.evs ≠ [] → b ≠ gA) ∧ (∀ b off, da = some ⟨b, off, none⟩ → (Mc.play s (picks ++ more)).2.2.cells ≠ [] → b ≠ gA)) := ⟨fun b off e _ => by have h1 : Wb19.heap.size ≤ b := hf1 _ e; have h2 := blk_lt NA.out; exact Nat.ne_of_gt (Nat.lt_of_lt_of_le h2 h1), fun b off e _ => by have h1 : Wb19.heap.size ≤ b := hf2 _ e; have h2 := blk_lt NA.out; exact Nat.ne_of_gt (Nat.lt_of_lt_of_le h2 h1)⟩
      have NB := TW.hide (blk_keep NA.out hb)
      clear NA
      have NA := NB
      clear NB
      refine HK.out _ _ TWb20.out (fun _ => trivial) ?_
      clear HK KX hb hE2 hC2 hx1 hx2 hj hf1 hf2 TWb19
      try simp only [Act.put, List.setIfInBounds_toArray, List.set_cons_zero, List.set_cons_succ, List.getElem_toArray, List.getElem_cons_zero, List.getElem_cons_succ]
      refine RG.wpL_take (fuel := 2) (a' := ?Ab21) [7, 8, 9] (by kernel_rfl) (by kernel_rfl) (fun _ _ _ _ _ h => h) TWb20.out (fun _ => trivial) ?rb21 ?_
      case rb21 =>
        refine RG.RunsIf.weak (v := ?_) (by rfl) (by rfl) (fun Z hT => ?_) ?_
        rotate_left
        · go_simp
          rfl
        simp only [Act.put, List.setIfInBounds_toArray, List.set_cons_zero, List.set_cons_succ, List.getElem_toArray, List.getElem_cons_zero, List.getElem_cons_succ]
        refine RG.RunsIf.weak (v := ?_) (by rfl) (by rfl) (fun Z hT => ?_) ?_
        rotate_left
        · go_simp
          rfl
        simp only [Act.put, List.setIfInBounds_toArray, List.set_cons_zero, List.set_cons_succ, List.getElem_toArray, List.getElem_cons_zero, List.getElem_cons_succ]
        refine RG.RunsIf.weak (v := ?_) (by rfl) (by rfl) (fun Z hT => ?_) ?_
        rotate_left
        · go_simp
          rfl
        simp only [Act.put, List.setIfInBounds_toArray, List.set_cons_zero, List.set_cons_succ, List.getElem_toArray, List.getElem_cons_zero, List.getElem_cons_succ]
        exact RG.RunsIf.nil
      have T5 : Hid (Below X.heap.size X (Wb20.setRow gA #[.int .i64 (Mc.play s (picks ++ more)).1, .int .i64 (Mc.play s (picks ++ more)).2.1, .slice fa (Mc.play s (picks ++ more)).2.2.evs.length fc, .int .i64 ((Mc.play s (picks ++ more)).2.2.rns.length : Int), .slice da (Mc.play s (picks ++ more)).2.2.cells.length dc])) := below_setRow TWb20.out hgB
      have N5 := TW.hide (setRow_heap _ _ _ #[.int .i64 (Mc.play s (picks ++ more)).1, .int .i64 (Mc.play s (picks ++ more)).2.1, .slice fa (Mc.play s (picks ++ more)).2.2.evs.length fc, .int .i64 ((Mc.play s (picks ++ more)).2.2.rns.length : Int), .slice da (Mc.play s (picks ++ more)).2.2.cells.length dc] _ _ NA.out)
      have E5 : Hid (ER (Wb20.setRow gA #[.int .i64 (Mc.play s (picks ++ more)).1, .int .i64 (Mc.play s (picks ++ more)).2.1, .slice fa (Mc.play s (picks ++ more)).2.2.evs.length fc, .int .i64 ((Mc.play s (picks ++ more)).2.2.rns.length : Int), .slice da (Mc.play s (picks ++ more)).2.2.cells.length dc]) fa (Mc.play s (picks ++ more)).2.2.evs) := er_row HE2.out HNE.out.1
      have C5 : Hid (NR (Wb20.setRow gA #[.int .i64 (Mc.play s (picks ++ more)).1, .int .i64 (Mc.play s (picks ++ more)).2.1, .slice fa (Mc.play s (picks ++ more)).2.2.evs.length fc, .int .i64 ((Mc.play s (picks ++ more)).2.2.rns.length : Int), .slice da (Mc.play s (picks ++ more)).2.2.cells.length dc]) da (Mc.play s (picks ++ more)).2.2.cells) := nr_row HC2.out HNE.out.2
      refine RG.wpL_step (i := 11) (by kernel_rfl) (by rfl) (by rfl) (fun KX hK => ?_)
      have HK := TW.hide hK
      clear hK
      refine wp_store_row 32 _ _ (by rfl) gA #[.int .i64 (Mc.play s (picks ++ more)).1, .int .i64 (Mc.play s (picks ++ more)).2.1, .slice fa (Mc.play s (picks ++ more)).2.2.evs.length fc, .int .i64 ((Mc.play s (picks ++ more)).2.2.rns.length : Int), .slice da (Mc.play s (picks ++ more)).2.2.cells.length dc] (by rfl) (by rfl) 32 _ NA.out (by kernel_rfl) (by rfl) (by simp [Value.oneCell']) ?_
      simp only [Act.put, List.setIfInBounds_toArray, List.set_cons_zero, List.set_cons_succ, List.getElem_toArray, List.getElem_cons_zero, List.getElem_cons_succ]
      refine HK.out _ _ T5.out (fun _ => trivial) ?_
      clear HK KX HE2 HC2 HNE NA TWb20
      generalize Wb20.setRow gA #[.int .i64 (Mc.play s (picks ++ more)).1, .int .i64 (Mc.play s (picks ++ more)).2.1, .slice fa (Mc.play s (picks ++ more)).2.2.evs.length fc, .int .i64 ((Mc.play s (picks ++ more)).2.2.rns.length : Int), .slice da (Mc.play s (picks ++ more)).2.2.cells.length dc] = Yz at *
      refine RG.wpL_take (fuel := 0) (a' := ?Ab22) [12] (by kernel_rfl) (by kernel_rfl) (fun _ _ _ _ _ h => h) T5.out (fun _ => trivial) ?rb22 ?_
      case rb22 =>
        refine RG.RunsIf.weak (v := ?_) (by rfl) (by rfl) (fun Z hT => ?_) ?_
        rotate_left
        · go_simp
          rfl
        simp only [Act.put, List.setIfInBounds_toArray, List.set_cons_zero, List.set_cons_succ, List.getElem_toArray, List.getElem_cons_zero, List.getElem_cons_succ]
        exact RG.RunsIf.nil
      refine RG.wpL_done (by kernel_rfl) ?_ _
      refine NoPanic.normal ?_
      exact HR.out gA Yz fa fc da dc T5.out N5.out E5.out C5.out
  · have HK := TW.hide hK
    clear hK
    have TWb23 : Hid (Below X.heap.size X (Ya.alloc (.cells #[.int .i64 0, .int .i64 0, .slice none 0 0, .int .i64 0, .slice none 0 0] 32))) := HTa.out.alloc HTa.out.size _
    have NA : Hid ((Ya.alloc (.cells #[.int .i64 0, .int .i64 0, .slice none 0 0, .int .i64 0, .slice none 0 0] 32)).heap[Ya.heap.size]? = some (.cells #[.int .i64 0, .int .i64 0, .slice none 0 0, .int .i64 0, .slice none 0 0] 32 (0, 0))) := heap_alloc_new _ _
    have hgB := HTa.out.size
    have hbA : Below Ya.heap.size Ya (Ya.alloc (.cells #[.int .i64 0, .int .i64 0, .slice none 0 0, .int .i64 0, .slice none 0 0] 32)) := (Below.refl _ _).alloc (Nat.le_refl _) _
    go_simp
    refine HK.out _ _ TWb23.out (fun _ => trivial) ?_
    clear HK KX HTa hbA
    generalize Ya.alloc (.cells #[.int .i64 0, .int .i64 0, .slice none 0 0, .int .i64 0, .slice none 0 0] 32) = Wb23 at *
    generalize Ya.heap.size = gA at *
    try simp only [Act.put, List.setIfInBounds_toArray, List.set_cons_zero, List.set_cons_succ, List.getElem_toArray, List.getElem_cons_zero, List.getElem_cons_succ]
    refine RG.wpL_step (i := 1) (by kernel_rfl) (by rfl) (by rfl) (fun KX hK => ?_)
    have HK := TW.hide hK
    clear hK
    have TWb24 : Hid (Below X.heap.size X (Wb23.alloc (.cells #[] 3))) := TWb23.out.alloc TWb23.out.size _
    have HW : Hid ((Wb23.alloc (.cells #[] 3)).ownsRow X.heap.size 3 1 (.slice (some ⟨Wb23.heap.size, 0, none⟩) 0 0) 0 []) := ⟨rfl, .inr ⟨Wb23.heap.size, 0, #[], rfl, TWb23.out.size, heap_alloc_new _ _, Nat.le_refl _, Nat.zero_le _, rfl, rfl⟩⟩
    have NB := TW.hide (blk_keep NA.out ((Below.refl _ _).alloc (Nat.le_refl _) (.cells #[] 3)))
    clear NA
    have NA := NB
    clear NB
    go_simp
    refine HK.out _ _ TWb24.out (fun _ => trivial) ?_
    clear HK KX TWb23
    generalize Wb23.alloc (.cells #[] 3) = Wb24 at *
    generalize Wb23.heap.size = gl at *
    try simp only [Act.put, List.setIfInBounds_toArray, List.set_cons_zero, List.set_cons_succ, List.getElem_toArray, List.getElem_cons_zero, List.getElem_cons_succ]
    refine RG.wpL_step (i := 3) (by kernel_rfl) (by rfl) (by rfl) (fun KX hK => ?_)
    have HK := TW.hide hK
    clear hK
    refine wp_app_ints (.tmp 26) (.tmp 27) (by rfl) X.heap.size _ _ _ (by rfl) HW.out pka pkc picks picks.length rfl (by rfl) (HPk.out.nr.below TWb24.out) HPk.out.nn (by omega) TWb24.out.size ?_
    intro vx Wb25 hown hgrow
    have TWb25 : Hid (Below X.heap.size X Wb25) := TWb24.out.grown hgrow TWb24.out.size (own_ge HW.out)
    have NB := TW.hide (blk_grownT HW.out hgrow NA.out (by decide))
    clear NA
    have NA := NB
    clear NB
    clear HW
    have HW := TW.hide hown
    refine HK.out _ _ TWb25.out (fun _ => trivial) ?_
    clear HK KX hown hgrow TWb24
    try simp only [Act.put, List.setIfInBounds_toArray, List.set_cons_zero, List.set_cons_succ, List.getElem_toArray, List.getElem_cons_zero, List.getElem_cons_succ]
    refine RG.wpL_step (i := 5) (by kernel_rfl) (by rfl) (by rfl) (fun KX hK => ?_)
    have HK := TW.hide hK
    clear hK
    refine wp_app_ints (.tmp 28) (.tmp 29) (by rfl) X.heap.size _ _ _ (by rfl) HW.out mka mkc more more.length rfl (by rfl) (HMk.out.nr.below TWb25.out) HMk.out.nn (by omega) TWb25.out.size ?_
    intro vx Wb26 hown hgrow
    have TWb26 : Hid (Below X.heap.size X Wb26) := TWb25.out.grown hgrow TWb25.out.size (own_ge HW.out)
    have NB := TW.hide (blk_grownT HW.out hgrow NA.out (by decide))
    clear NA
    have NA := NB
    clear NB
    clear HW
    have HW := TW.hide hown
    refine HK.out _ _ TWb26.out (fun _ => trivial) ?_
    clear HK KX hown hgrow TWb25
    try simp only [Act.put, List.setIfInBounds_toArray, List.set_cons_zero, List.set_cons_succ, List.getElem_toArray, List.getElem_cons_zero, List.getElem_cons_succ]
    refine RG.wpL_step (i := 6) (by kernel_rfl) (by rfl) (by rfl) (fun KX hK => ?_)
    have HK := TW.hide hK
    clear hK
    have hw0 := HW.out
    simp only [List.nil_append, Nat.zero_add] at hw0
    obtain ⟨ja, jc, rfl, hj⟩ := pk_join hw0 HPk.out.i6 HMk.out.i6 hll
    clear hw0 HW
    rw [List.length_append] at HPm
    go_simp
    refine (HPm.out _ _ _ (HSy.out.below TWb26.out) hj).mono ?_
    rintro e6 Wb27 ⟨cs, x, r, rfl, hr, hb, hx1, hx2⟩
    obtain ⟨rfl, rfl⟩ := hx1 HO.out
    obtain ⟨fa, fc, da, dc, rfl, hE2, hC2, hf1, hf2⟩ := hr
    have TWb27 : Hid (Below X.heap.size X Wb27) := TWb26.out.trans (hb.mono TWb26.out.size)
    have HE2 := TW.hide hE2
    have HC2 := TW.hide hC2
    have HNE : Hid ((∀ b off, fa = some ⟨b, off, none⟩ → (Mc.play s (picks ++ more)).2.2.evs ≠ [] → b ≠ gA) ∧ (∀ b off, da = some ⟨b, off, none⟩ → (Mc.play s (picks ++ more)).2.2.cells ≠ [] → b ≠ gA)) := ⟨fun b off e _ => by have h1 : Wb26.heap.size ≤ b := hf1 _ e; have h2 := blk_lt NA.out; exact Nat.ne_of_gt (Nat.lt_of_lt_of_le h2 h1), fun b off e _ => by have h1 : Wb26.heap.size ≤ b := hf2 _ e; have h2 := blk_lt NA.out; exact Nat.ne_of_gt (Nat.lt_of_lt_of_le h2 h1)⟩
    have NB := TW.hide (blk_keep NA.out hb)
    clear NA
    have NA := NB
    clear NB
    refine HK.out _ _ TWb27.out (fun _ => trivial) ?_
    clear HK KX hb hE2 hC2 hx1 hx2 hj hf1 hf2 TWb26
    try simp only [Act.put, List.setIfInBounds_toArray, List.set_cons_zero, List.set_cons_succ, List.getElem_toArray, List.getElem_cons_zero, List.getElem_cons_succ]
    refine RG.wpL_take (fuel := 2) (a' := ?Ab28) [7, 8, 9] (by kernel_rfl) (by kernel_rfl) (fun _ _ _ _ _ h => h) TWb27.out (fun _ => trivial) ?rb28 ?_
    case rb28 =>
      refine RG.RunsIf.weak (v := ?_) (by rfl) (by rfl) (fun Z hT => ?_) ?_
      rotate_left
      · go_simp
        rfl
      simp only [Act.put, List.setIfInBounds_toArray, List.set_cons_zero, List.set_cons_succ, List.getElem_toArray, List.getElem_cons_zero, List.getElem_cons_succ]
      refine RG.RunsIf.weak (v := ?_) (by rfl) (by rfl) (fun Z hT => ?_) ?_
      rotate_left
      · go_simp
        rfl
      simp only [Act.put, List.setIfInBounds_toArray, List.set_cons_zero, List.set_cons_succ, List.getElem_toArray, List.getElem_cons_zero, List.getElem_cons_succ]
      refine RG.RunsIf.weak (v := ?_) (by rfl) (by rfl) (fun Z hT => ?_) ?_
      rotate_left
      · go_simp
        rfl
      simp only [Act.put, List.setIfInBounds_toArray, List.set_cons_zero, List.set_cons_succ, List.getElem_toArray, List.getElem_cons_zero, List.getElem_cons_succ]
      exact RG.RunsIf.nil
    have T5 : Hid (Below X.heap.size X (Wb27.setRow gA #[.int .i64 (Mc.play s (picks ++ more)).1, .int .i64 (Mc.play s (picks ++ more)).2.1, .slice fa (Mc.play s (picks ++ more)).2.2.evs.length fc, .int .i64 ((Mc.play s (picks ++ more)).2.2.rns.length : Int), .slice da (Mc.play s (picks ++ more)).2.2.cells.length dc])) := below_setRow TWb27.out hgB
    have N5 := TW.hide (setRow_heap _ _ _ #[.int .i64 (Mc.play s (picks ++ more)).1, .int .i64 (Mc.play s (picks ++ more)).2.1, .slice fa (Mc.play s (picks ++ more)).2.2.evs.length fc, .int .i64 ((Mc.play s (picks ++ more)).2.2.rns.length : Int), .slice da (Mc.play s (picks ++ more)).2.2.cells.length dc] _ _ NA.out)
    have E5 : Hid (ER (Wb27.setRow gA #[.int .i64 (Mc.play s (picks ++ more)).1, .int .i64 (Mc.play s (picks ++ more)).2.1, .slice fa (Mc.play s (picks ++ more)).2.2.evs.length fc, .int .i64 ((Mc.play s (picks ++ more)).2.2.rns.length : Int), .slice da (Mc.play s (picks ++ more)).2.2.cells.length dc]) fa (Mc.play s (picks ++ more)).2.2.evs) := er_row HE2.out HNE.out.1
    have C5 : Hid (NR (Wb27.setRow gA #[.int .i64 (Mc.play s (picks ++ more)).1, .int .i64 (Mc.play s (picks ++ more)).2.1, .slice fa (Mc.play s (picks ++ more)).2.2.evs.length fc, .int .i64 ((Mc.play s (picks ++ more)).2.2.rns.length : Int), .slice da (Mc.play s (picks ++ more)).2.2.cells.length dc]) da (Mc.play s (picks ++ more)).2.2.cells) := nr_row HC2.out HNE.out.2
    refine RG.wpL_step (i := 11) (by kernel_rfl) (by rfl) (by rfl) (fun KX hK => ?_)
    have HK := TW.hide hK
    clear hK
    refine wp_store_row 32 _ _ (by rfl) gA #[.int .i64 (Mc.play s (picks ++ more)).1, .int .i64 (Mc.play s (picks ++ more)).2.1, .slice fa (Mc.play s (picks ++ more)).2.2.evs.length fc, .int .i64 ((Mc.play s (picks ++ more)).2.2.rns.length : Int), .slice da (Mc.play s (picks ++ more)).2.2.cells.length dc] (by rfl) (by rfl) 32 _ NA.out (by kernel_rfl) (by rfl) (by simp [Value.oneCell']) ?_
    simp only [Act.put, List.setIfInBounds_toArray, List.set_cons_zero, List.set_cons_succ, List.getElem_toArray, List.getElem_cons_zero, List.getElem_cons_succ]
    refine HK.out _ _ T5.out (fun _ => trivial) ?_
    clear HK KX HE2 HC2 HNE NA TWb27
    generalize Wb27.setRow gA #[.int .i64 (Mc.play s (picks ++ more)).1, .int .i64 (Mc.play s (picks ++ more)).2.1, .slice fa (Mc.play s (picks ++ more)).2.2.evs.length fc, .int .i64 ((Mc.play s (picks ++ more)).2.2.rns.length : Int), .slice da (Mc.play s (picks ++ more)).2.2.cells.length dc] = Yz at *
    refine RG.wpL_take (fuel := 0) (a' := ?Ab29) [12] (by kernel_rfl) (by kernel_rfl) (fun _ _ _ _ _ h => h) T5.out (fun _ => trivial) ?rb29 ?_
    case rb29 =>
      refine RG.RunsIf.weak (v := ?_) (by rfl) (by rfl) (fun Z hT => ?_) ?_
      rotate_left
      · go_simp
        rfl
      simp only [Act.put, List.setIfInBounds_toArray, List.set_cons_zero, List.set_cons_succ, List.getElem_toArray, List.getElem_cons_zero, List.getElem_cons_succ]
      exact RG.RunsIf.nil
    refine RG.wpL_done (by kernel_rfl) ?_ _
    refine NoPanic.normal ?_
    exact HR.out gA Yz fa fc da dc T5.out N5.out E5.out C5.out
end LW
end Go.Proofs.Ytheifjakpdeiaaa
