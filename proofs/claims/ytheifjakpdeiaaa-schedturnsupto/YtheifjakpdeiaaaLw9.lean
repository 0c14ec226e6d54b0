/-
  The law on turns.
-/
import Derived.Test.YtheifjakpdeiaaaLw7
import Derived.Test.YtheifjakpdeiaaaPair
import Derived.Test.YtheifjakpdeiaaaArg8
namespace Go.Proofs.Ytheifjakpdeiaaa
open Go.RowKit
set_option linter.unusedVariables false
set_option linter.unusedSimpArgs false
namespace LW
open Mc
theorem play_turns (s : Syst) (a : List Int) (d : Int) (h : (play s a).2.2.rns.length ≤ 12) : play s (a.map (fun p => p + d * 27720)) = play s a := run_turns s a d _ _ h
/-- Of two rows one grows. -/
theorem two_grow {W W1 : World} {B n m : Nat} {t : TypeId} {va vb v5 : Value} {xs ys : List Value} (ha : W.ownsRow B t 1 va n xs) (hb : W.ownsRow B t 1 vb m ys) (hd : ∀ b, va.ownBlock = some b → vb.ownBlock ≠ some b) (c : Obj) (h2 : (W.alloc c).grownBy W1 va.ownBlock) (h3 : v5.ownBlock = va.ownBlock ∨ v5.ownBlock = some (W.alloc c).heap.size) : W1.ownsRow B t 1 vb m ys ∧ ∀ b, v5.ownBlock = some b → vb.ownBlock ≠ some b := by
  refine ⟨(hb.alloc c).kept h2 ?_, fun b h4 h5 => ?_⟩
  · cases e : vb.ownBlock with
    | none => exact .inl rfl
    | some b => exact .inr (fun e2 => hd b e2.symm e)
  · rcases h3 with h3 | h3
    · exact hd b (by rw [← h3]; exact h4) h5
    · rw [h3] at h4
      injection h4 with h4
      have := own_lt (hb.alloc c) b h5
      omega
theorem row_pk {W : World} {B n : Nat} {v : Value} {xs : List Int} (h : W.ownsRow B 3 1 v n (xs.map (Value.int .i64))) (hn : xs.length = n) (hx : ∀ j, i64 (xs.getD j 0)) (hl : xs.length ≤ 17592186043904) : ∃ x c, v = .slice x xs.length c ∧ PkI W x c xs := by
  obtain ⟨x, c, e, h2⟩ := pk_join (a := xs) (b := []) (by simpa [hn] using h) hx (fun j => by simpa using i64_0) (by simpa using hl)
  rw [List.append_nil] at e h2
  exact ⟨x, c, e, h2⟩
set_option maxRecDepth 100000 in
set_option maxHeartbeats 4000000 in
theorem turnsW (hP : PPlay) (s : Syst) (pa : Option Addr) (pc : Nat) (ra : Option Addr) (rc : Nat) (pka : Option Addr) (pkc : Nat) (picks : List Int) (d : Int) (w : World) (hs : SyI w s pa ra) (hp : NR8 w pka picks) (h8 : ∀ j, i8 (picks.getD j 0)) (hn : picks.length ≤ 1048576) (wd : (Lit.int .i16 d).wf = true) :
    Calls Try.prog 7 #[.agg (syC s pa pc ra rc), .slice pka picks.length pkc, .int .i16 d] w fun e w' => e = .returned (.bool true) ∧ Below w.heap.size w w' := by
  have hd := bounds_i16 wd
  clear wd
  have HPl : Hid (∀ W a c xs, SyI W s pa ra → PkI W a c xs → Calls Try.prog 12 #[.agg (syC s pa pc ra rc), .slice a xs.length c] W (PlaP W s xs)) := fun W a c xs hW hW2 => hP s pa pc ra rc a c xs W hW hW2
  unfold syC at HPl
  have HPk := TW.hide hp
  have HVd : Hid (∀ W, SyI W s pa ra → Calls Try.prog 10 #[.agg #[.slice pa s.progs.length pc, .slice ra s.rooms.length rc, .int .i64 s.groups, .int .i64 s.locks, .int .i64 s.cells]] W (RiP (Ok s) W)) := fun W hW => rvalid13 s pa pc ra rc _ _ W hW.sm rfl rfl hW.pn hW.rn hW.pl
  unfold syC
  have hA : Below w.heap.size w (w.alloc (.cells #[.slice pa s.progs.length pc, .slice ra s.rooms.length rc, .int .i64 s.groups, .int .i64 s.locks, .int .i64 s.cells] 25)) := (Below.refl _ _).alloc (Nat.le_refl _) _
  have N1 : Hid ((w.alloc (.cells #[.slice pa s.progs.length pc, .slice ra s.rooms.length rc, .int .i64 s.groups, .int .i64 s.locks, .int .i64 s.cells] 25)).heap[w.heap.size]? = some (.cells #[.slice pa s.progs.length pc, .slice ra s.rooms.length rc, .int .i64 s.groups, .int .i64 s.locks, .int .i64 s.cells] 25 (0, 0))) := heap_alloc_new w _
  have HBV := TW.hide hA
  clear hA
  go_enter Try.func7, Try.ntmps7
  refine wp_seq_k fun K hK => ?_
  have HK := TW.hide hK
  clear hK
  go_wp2
  refine HK.out _ _ ?_
  clear HK K
  generalize World.alloc _ _ = V at *
  have HSy := TW.hide (hs.below HBV.out)
  obtain ⟨s0, s1, s2, s3, s4⟩ := cellsY5 N1.out
  have HPk1 := TW.hide (HPk.out.below HBV.out)
  clear HPk
  refine wp_seq_k fun K hK => ?_
  have HK := TW.hide hK
  clear hK
  go_wp2_with fail
  refine (awake_ hP _).mono ?_
  rintro e8 w8 ⟨rfl, hb⟩
  have HSy8 := TW.hide (HSy.out.below hb)
  have HPk8 := TW.hide (HPk1.out.below hb)
  have N8 := TW.hide (blk_keep N1.out hb)
  have HB8 : Hid (Below w.heap.size w w8) := HBV.out.trans (hb.mono HBV.out.size)
  clear hb HSy HPk1 N1 HBV s0 s1 s2 s3 s4
  go_wp2
  refine HK.out _ _ ?_
  clear HK
  obtain ⟨s0, s1, s2, s3, s4⟩ := cellsY5 N8.out
  refine wp_seq_k fun K hK => ?_
  have HK := TW.hide hK
  clear hK
  go_wp2_with fail
  refine (HVd.out _ HSy8.out).mono ?_
  rintro e3 w3 ⟨b, rfl, hb1, hb⟩
  have HSy3 := TW.hide (HSy8.out.below hb)
  have HPk3 := TW.hide (HPk8.out.below hb)
  have N3 := TW.hide (blk_keep N8.out hb)
  have HB3 : Hid (Below w.heap.size w w3) := HB8.out.trans (hb.mono HB8.out.size)
  clear hb HSy8 HPk8 N8 HB8 s0 s1 s2 s3 s4
  obtain ⟨s0, s1, s2, s3, s4⟩ := cellsY5 N3.out
  cases b with
  | false =>
    clear hb1
    go_wp2
    go_ret
    exact ⟨rfl, HB3.out⟩
  | true =>
  have HO : Hid (Ok s) := hb1.1 rfl
  clear hb1
  by_cases hpl : 4 < s.progs.length
  · have kp : (4 : Int) < (s.progs.length : Int) := by omega
    go_wp2
    go_ret
    exact ⟨rfl, HB3.out⟩
  have kp : ¬ (4 : Int) < (s.progs.length : Int) := by omega
  clear hpl
  go_wp2
  refine HK.out _ _ ?_
  clear HK s0 s1 s2 s3 s4 kp
  refine wp_seq_k fun K hK => ?_
  have HK := TW.hide hK
  clear hK
  go_wp2
  refine HK.out _ _ ?_
  clear HK
  refine wp_seq_k fun K hK => ?_
  have HK := TW.hide hK
  clear hK
  have H8 := TW.hide h8
  clear h8 hp hs
  obtain ⟨i3, hi3, hz30, hz31, hz32⟩ := info_parts' intinfo
  go_wp2
  go_loopw [7, 8, 28] (fun v1 v2 j wr => ∃ (k : Nat) (va vb : Value), k ≤ picks.length ∧ va = v1 ∧ vb = v2 ∧ j = .int .i64 (k : Int) ∧ Hid (wr.ownsRow w3.heap.size 3 1 va k ((picks.take k).map (Value.int .i64))) ∧ Hid (wr.ownsRow w3.heap.size 3 1 vb k (((picks.take k).map (fun p => p + d * 27720)).map (Value.int .i64))) ∧ Hid (∀ b, va.ownBlock = some b → vb.ownBlock ≠ some b) ∧ Hid (Below w3.heap.size w3 wr)) (fun va vb j wr => picks.length - (intOf j).toNat)
  case atStart => exact ⟨0, _, _, Nat.zero_le _, rfl, rfl, rfl, TW.hide ⟨by simp, .inl ⟨rfl, rfl⟩⟩, TW.hide ⟨by simp, .inl ⟨rfl, rfl⟩⟩, TW.hide (fun b h => by cases h), TW.hide (Below.refl _ _)⟩
  case round =>
    obtain ⟨k, va, vb, hk, rfl, rfl, rfl, HOa, HOb, HD, HB⟩ := hrel
    by_cases hlt : k < picks.length
    · have hk1 : (k : Int) < (picks.length : Int) := by omega
      have hk0 : (0 : Int) ≤ (k : Int) := by omega
      obtain ⟨b, off, hpk, hx⟩ : ∃ b off, pka = some ⟨b, off, none⟩ ∧ wr.cell? ⟨b, off + k, none⟩ = some (.int .i8 (picks.getD k 0)) := by
        rcases HPk3.out with h | ⟨b, off, e, hc⟩
        · rw [h] at hlt; simp at hlt
        · exact ⟨b, off, e, keepC HB.out (hc k hlt)⟩
      subst hpk
      have hx8 := H8.out k
      unfold i8 at hx8
      have HT : Hid (picks.take (k + 1) = picks.take k ++ [picks.getD k 0]) := by
        show _ = _
        rw [List.take_add_one, List.getD_eq_getElem?_getD, List.getElem?_eq_getElem hlt]
        rfl
      have hkb : k ≤ 1048576 := by omega
      have HLT := TW.hide hlt
      clear hlt hk
      generalize picks.getD k 0 = x at *
      have ew0 : IntKind.i64.wrap x = x := by rw [IntKind.wrap_i64]; omega
      have ew1 : IntKind.i64.wrap d = d := by rw [IntKind.wrap_i64]; omega
      have ew2 : IntKind.i64.wrap (d * 27720) = d * 27720 := by rw [IntKind.wrap_i64]; omega
      have ew3 : IntKind.i64.wrap (x + d * 27720) = x + d * 27720 := by rw [IntKind.wrap_i64]; omega
      have HSz : Hid (w3.heap.size ≤ wr.heap.size) := HB.out.size
      have HF1 : Hid (∀ v5 w5, w5.ownsRow w3.heap.size 3 1 v5 (k + 1) ((picks.take k).map (Value.int .i64) ++ [.int .i64 x]) → (wr.alloc (.cells #[.int .i64 x] 3)).grownBy w5 va.ownBlock → (v5.ownBlock = va.ownBlock ∨ v5.ownBlock = some (wr.alloc (.cells #[.int .i64 x] 3)).heap.size) → w5.ownsRow w3.heap.size 3 1 v5 (k + 1) ((picks.take (k + 1)).map (Value.int .i64)) ∧ w5.ownsRow w3.heap.size 3 1 vb k (((picks.take k).map (fun p => p + d * 27720)).map (Value.int .i64)) ∧ (∀ b, vb.ownBlock = some b → v5.ownBlock ≠ some b) ∧ Below w3.heap.size w3 w5) := fun v5 w5 h1 h2 h3 => by
        obtain ⟨h4, h5⟩ := two_grow HOa.out HOb.out HD.out _ h2 h3
        refine ⟨?_, h4, fun b e e2 => h5 b e2 e, ?_⟩
        · rw [HT.out, List.map_append]; exact h1
        · exact (HB.out.alloc HB.out.size _).grown h2 (by have := HB.out.size; simp; omega) (fun q hq => own_blkI HOa.out q hq)
      have HF2 : Hid (∀ v5 w5 v6 w6, w5.ownsRow w3.heap.size 3 1 v5 (k + 1) ((picks.take (k + 1)).map (Value.int .i64)) → w5.ownsRow w3.heap.size 3 1 vb k (((picks.take k).map (fun p => p + d * 27720)).map (Value.int .i64)) → (∀ b, vb.ownBlock = some b → v5.ownBlock ≠ some b) → Below w3.heap.size w3 w5 → w6.ownsRow w3.heap.size 3 1 v6 (k + 1) (((picks.take k).map (fun p => p + d * 27720)).map (Value.int .i64) ++ [.int .i64 (x + d * 27720)]) → (w5.alloc (.cells #[.int .i64 (x + d * 27720)] 3)).grownBy w6 vb.ownBlock → (v6.ownBlock = vb.ownBlock ∨ v6.ownBlock = some (w5.alloc (.cells #[.int .i64 (x + d * 27720)] 3)).heap.size) → w6.ownsRow w3.heap.size 3 1 v5 (k + 1) ((picks.take (k + 1)).map (Value.int .i64)) ∧ w6.ownsRow w3.heap.size 3 1 v6 (k + 1) (((picks.take (k + 1)).map (fun p => p + d * 27720)).map (Value.int .i64)) ∧ (∀ b, v5.ownBlock = some b → v6.ownBlock ≠ some b) ∧ Below w3.heap.size w3 w6) := fun v5 w5 v6 w6 g1 g2 g3 g4 h1 h2 h3 => by
        obtain ⟨h4, h5⟩ := two_grow g2 g1 g3 _ h2 h3
        refine ⟨h4, ?_, fun b e e2 => h5 b e2 e, ?_⟩
        · rw [HT.out, List.map_append, List.map_append]; exact h1
        · exact (g4.alloc g4.size _).grown h2 (by have := g4.size; simp; omega) (fun q hq => own_blkI g2 q hq)
      clear HT hx8
      go_wp2_with (first | (at_builtin; refine wpList_append_own_at _ rfl _ _ 23 rfl w3.heap.size 3 i3 (.int .i64 0) 1 8 Try.underlying23 hi3 hz30 hz31 hz32 rfl (by decide) va k ((picks.take k).map (Value.int .i64)) rfl (HOa.out.alloc _) ⟨wr.heap.size, 0, none⟩ 1 1 [.int .i64 x] rfl rfl (cell_one_new _ _ _) (by simp [Value.oneCell']) (by unfold maxLen; omega) (by omega) (by have := HSz.out; simp; omega) ?_; (intro v5 w5 h1 h2 _ h3); have hF := HF1.out v5 w5 h1 h2 h3; have HO5 := TW.hide hF.1; have HQ5 := TW.hide hF.2.1; have HD5 := TW.hide hF.2.2.1; have HB5 := TW.hide hF.2.2.2; have HS5 : Hid (w3.heap.size ≤ w5.heap.size) := hF.2.2.2.size; clear h1 h2 h3 hF HF1) | (at_builtin; refine wpList_append_own_at _ rfl _ _ 23 rfl w3.heap.size 3 i3 (.int .i64 0) 1 8 Try.underlying23 hi3 hz30 hz31 hz32 rfl (by decide) vb k (((picks.take k).map (fun p => p + d * 27720)).map (Value.int .i64)) rfl (HQ5.out.alloc _) ⟨w5.heap.size, 0, none⟩ 1 1 [.int .i64 (x + d * 27720)] rfl rfl (cell_one_new _ _ _) (by simp [Value.oneCell']) (by unfold maxLen; omega) (by omega) (by have := HS5.out; simp; omega) ?_; (intro v6 w6 h1 h2 _ h3); have hF := HF2.out v5 w5 v6 w6 HO5.out HQ5.out HD5.out HB5.out h1 h2 h3; have HO6 := TW.hide hF.1; have HQ6 := TW.hide hF.2.1; have HD6 := TW.hide hF.2.2.1; have HB6 := TW.hide hF.2.2.2; clear h1 h2 h3 hF HF2))
      go_roundw
      case rel => exact ⟨k + 1, _, _, HLT.out, rfl, rfl, by go_num, HO6, HQ6, HD6, HB6⟩
      case measure => simp [intOf]; have := HLT.out; omega
    · have hkn : k = picks.length := by omega
      subst hkn
      have hk1 : ¬ (picks.length : Int) < (picks.length : Int) := by omega
      have oa := HOa.out
      have ob := HOb.out
      rw [List.take_length] at oa ob
      have hi6 : ∀ j, i64 (picks.getD j 0) := fun j => by have := H8.out j; unfold i8 at this; unfold i64; omega
      have hj6 : ∀ j, i64 ((picks.map (fun p => p + d * 27720)).getD j 0) := fun j => by
        have := H8.out j
        unfold i8 at this
        unfold i64
        rw [List.getD_eq_getElem?_getD, List.getElem?_map]
        rw [List.getD_eq_getElem?_getD] at this
        cases e : picks[j]? with
        | none => simp
        | some q => rw [e] at this; simp at this ⊢; omega
      obtain ⟨xa, xc, rfl, hA⟩ := row_pk oa rfl hi6 (by omega)
      obtain ⟨ya, yc, rfl, hB⟩ := row_pk ob (by simp) hj6 (by simp; omega)
      have HA := TW.hide hA
      have HBk := TW.hide hB
      have HSr := TW.hide (HSy3.out.below HB.out)
      have N4 := TW.hide (blk_keep N3.out HB.out)
      have HB4 : Hid (Below w.heap.size w wr) := HB3.out.trans (HB.out.mono HB3.out.size)
      have HPb : Hid (∀ W, SyI W s pa ra → PkI W ya yc (picks.map (fun p => p + d * 27720)) → Calls Try.prog 12 #[.agg #[.slice pa s.progs.length pc, .slice ra s.rooms.length rc, .int .i64 s.groups, .int .i64 s.locks, .int .i64 s.cells], .slice ya picks.length yc] W (PlaP W s (picks.map (fun p => p + d * 27720)))) := fun W h1 h2 => by
        have h3 := HPl.out W ya yc (picks.map (fun p => p + d * 27720)) h1 h2
        rw [List.length_map] at h3
        exact h3
      clear oa ob hA hB hi6 hj6 HOa HOb HD HB H8 HPk3 HSy3 N3 HB3 hk HVd
      obtain ⟨s0, s1, s2, s3, s4⟩ := cellsY5 N4.out
      go_wp2
      refine HK.out _ _ ?_
      clear HK
      go_wp2_with fail
      refine (HPl.out _ _ _ picks HSr.out HA.out).mono ?_
      rintro e6 w6 ⟨cs, x, r, rfl, hr, hb, hx1, hx2⟩
      obtain ⟨rfl, rfl⟩ := hx1 HO.out
      obtain ⟨ea, ec, ca, cc, rfl, hEv, hCe⟩ := hr
      have hb7 : Below wr.heap.size wr (w6.alloc (.cells #[.int .i64 (Mc.play s picks).1, .int .i64 (Mc.play s picks).2.1, .slice ea (Mc.play s picks).2.2.evs.length ec, .int .i64 ((Mc.play s picks).2.2.rns.length : Int), .slice ca (Mc.play s picks).2.2.cells.length cc] 32)) := hb.alloc hb.size _
      have hb76 : Below w6.heap.size w6 (w6.alloc (.cells #[.int .i64 (Mc.play s picks).1, .int .i64 (Mc.play s picks).2.1, .slice ea (Mc.play s picks).2.2.evs.length ec, .int .i64 ((Mc.play s picks).2.2.rns.length : Int), .slice ca (Mc.play s picks).2.2.cells.length cc] 32)) := (Below.refl _ _).alloc (Nat.le_refl _) _
      have HEv := TW.hide (hEv.below hb76)
      have HCe := TW.hide (hCe.below hb76)
      have HS5 := TW.hide (HSr.out.below hb7)
      have HB5 := TW.hide (HBk.out.below hb7)
      have N5 := TW.hide (blk_keep N4.out hb7)
      have HW5 : Hid (Below w.heap.size w (w6.alloc (.cells #[.int .i64 (Mc.play s picks).1, .int .i64 (Mc.play s picks).2.1, .slice ea (Mc.play s picks).2.2.evs.length ec, .int .i64 ((Mc.play s picks).2.2.rns.length : Int), .slice ca (Mc.play s picks).2.2.cells.length cc] 32))) := HB4.out.trans (hb7.mono HB4.out.size)
      have M5 : Hid ((w6.alloc (.cells #[.int .i64 (Mc.play s picks).1, .int .i64 (Mc.play s picks).2.1, .slice ea (Mc.play s picks).2.2.evs.length ec, .int .i64 ((Mc.play s picks).2.2.rns.length : Int), .slice ca (Mc.play s picks).2.2.cells.length cc] 32)).heap[w6.heap.size]? = some (.cells #[.int .i64 (Mc.play s picks).1, .int .i64 (Mc.play s picks).2.1, .slice ea (Mc.play s picks).2.2.evs.length ec, .int .i64 ((Mc.play s picks).2.2.rns.length : Int), .slice ca (Mc.play s picks).2.2.cells.length cc] 32 (0, 0))) := heap_alloc_new w6 _
      clear hEv hCe hx1 hx2 hb hb7 hb76 HSr HBk HA N4 HB4 s0 s1 s2 s3 s4
      obtain ⟨s0, s1, s2, s3, s4⟩ := cellsY5 N5.out
      go_wp2_with fail
      generalize World.alloc _ _ = X at *
      generalize w6.heap.size = bu at *
      refine (HPb.out _ HS5.out HB5.out).mono ?_
      rintro e7 w7 ⟨cs, x, r, rfl, hr, hb, hx1, hx2⟩
      obtain ⟨rfl, rfl⟩ := hx1 HO.out
      obtain ⟨fa, fc, da, dc, rfl, hFv, hDe⟩ := hr
      have hb7 : Below X.heap.size X (w7.alloc (.cells #[.int .i64 (Mc.play s (picks.map (fun p => p + d * 27720))).1, .int .i64 (Mc.play s (picks.map (fun p => p + d * 27720))).2.1, .slice fa (Mc.play s (picks.map (fun p => p + d * 27720))).2.2.evs.length fc, .int .i64 ((Mc.play s (picks.map (fun p => p + d * 27720))).2.2.rns.length : Int), .slice da (Mc.play s (picks.map (fun p => p + d * 27720))).2.2.cells.length dc] 32)) := hb.alloc hb.size _
      have hb76 : Below w7.heap.size w7 (w7.alloc (.cells #[.int .i64 (Mc.play s (picks.map (fun p => p + d * 27720))).1, .int .i64 (Mc.play s (picks.map (fun p => p + d * 27720))).2.1, .slice fa (Mc.play s (picks.map (fun p => p + d * 27720))).2.2.evs.length fc, .int .i64 ((Mc.play s (picks.map (fun p => p + d * 27720))).2.2.rns.length : Int), .slice da (Mc.play s (picks.map (fun p => p + d * 27720))).2.2.cells.length dc] 32)) := (Below.refl _ _).alloc (Nat.le_refl _) _
      have HEw := TW.hide (HEv.out.below hb7)
      have HCw := TW.hide (HCe.out.below hb7)
      have HFw := TW.hide (hFv.below hb76)
      have HDw := TW.hide (hDe.below hb76)
      have MA := TW.hide (blk_keep M5.out hb7)
      have MB : Hid ((w7.alloc (.cells #[.int .i64 (Mc.play s (picks.map (fun p => p + d * 27720))).1, .int .i64 (Mc.play s (picks.map (fun p => p + d * 27720))).2.1, .slice fa (Mc.play s (picks.map (fun p => p + d * 27720))).2.2.evs.length fc, .int .i64 ((Mc.play s (picks.map (fun p => p + d * 27720))).2.2.rns.length : Int), .slice da (Mc.play s (picks.map (fun p => p + d * 27720))).2.2.cells.length dc] 32)).heap[w7.heap.size]? = some (.cells #[.int .i64 (Mc.play s (picks.map (fun p => p + d * 27720))).1, .int .i64 (Mc.play s (picks.map (fun p => p + d * 27720))).2.1, .slice fa (Mc.play s (picks.map (fun p => p + d * 27720))).2.2.evs.length fc, .int .i64 ((Mc.play s (picks.map (fun p => p + d * 27720))).2.2.rns.length : Int), .slice da (Mc.play s (picks.map (fun p => p + d * 27720))).2.2.cells.length dc] 32 (0, 0))) := heap_alloc_new w7 _
      have HW7 : Hid (Below w.heap.size w (w7.alloc (.cells #[.int .i64 (Mc.play s (picks.map (fun p => p + d * 27720))).1, .int .i64 (Mc.play s (picks.map (fun p => p + d * 27720))).2.1, .slice fa (Mc.play s (picks.map (fun p => p + d * 27720))).2.2.evs.length fc, .int .i64 ((Mc.play s (picks.map (fun p => p + d * 27720))).2.2.rns.length : Int), .slice da (Mc.play s (picks.map (fun p => p + d * 27720))).2.2.cells.length dc] 32))) := HW5.out.trans (hb7.mono HW5.out.size)
      have HRn : Hid ((Mc.play s picks).2.2.evs.length ≤ 40000 ∧ (Mc.play s picks).2.2.cells.length ≤ 64) := ⟨play_len s picks, play_cells HO.out picks⟩
      clear hFv hDe hx1 hx2 hb hb7 hb76 HS5 HB5 N5 HW5 M5 HEv HCe HPl s0 s1 s2 s3 s4
      obtain ⟨a0, a1, a2, a3, a4⟩ := cellsY5 MA.out
      obtain ⟨b0, b1, b2, b3, b4⟩ := cellsY5 MB.out
      by_cases h12 : 12 < (Mc.play s picks).2.2.rns.length
      · have kr : (12 : Int) < ((Mc.play s picks).2.2.rns.length : Int) := by omega
        go_wp2
        go_ret
        exact ⟨rfl, HW7.out⟩
      have er := play_turns s picks d (by omega)
      have kr : ¬ (12 : Int) < ((Mc.play s picks).2.2.rns.length : Int) := by omega
      have ks : ¬ (12 : Int) < ((Mc.play s (picks.map (fun p => p + d * 27720))).2.2.rns.length : Int) := by rw [er]; omega
      have HAl : Hid (∀ W', Below (w7.alloc (.cells #[.int .i64 (Mc.play s (picks.map (fun p => p + d * 27720))).1, .int .i64 (Mc.play s (picks.map (fun p => p + d * 27720))).2.1, .slice fa (Mc.play s (picks.map (fun p => p + d * 27720))).2.2.evs.length fc, .int .i64 ((Mc.play s (picks.map (fun p => p + d * 27720))).2.2.rns.length : Int), .slice da (Mc.play s (picks.map (fun p => p + d * 27720))).2.2.cells.length dc] 32)).heap.size (w7.alloc (.cells #[.int .i64 (Mc.play s (picks.map (fun p => p + d * 27720))).1, .int .i64 (Mc.play s (picks.map (fun p => p + d * 27720))).2.1, .slice fa (Mc.play s (picks.map (fun p => p + d * 27720))).2.2.evs.length fc, .int .i64 ((Mc.play s (picks.map (fun p => p + d * 27720))).2.2.rns.length : Int), .slice da (Mc.play s (picks.map (fun p => p + d * 27720))).2.2.cells.length dc] 32)) W' → Calls Try.prog 13 #[.agg #[.int .i64 (Mc.play s picks).1, .int .i64 (Mc.play s picks).2.1, .slice ea (Mc.play s picks).2.2.evs.length ec, .int .i64 ((Mc.play s picks).2.2.rns.length : Int), .slice ca (Mc.play s picks).2.2.cells.length cc], .agg #[.int .i64 (Mc.play s (picks.map (fun p => p + d * 27720))).1, .int .i64 (Mc.play s (picks.map (fun p => p + d * 27720))).2.1, .slice fa (Mc.play s (picks.map (fun p => p + d * 27720))).2.2.evs.length fc, .int .i64 ((Mc.play s (picks.map (fun p => p + d * 27720))).2.2.rns.length : Int), .slice da (Mc.play s (picks.map (fun p => p + d * 27720))).2.2.cells.length dc]] W' fun e w' => e = .returned (.bool true) ∧ Below W'.heap.size W' w') := fun W' hW' => by
        refine alike_same (play s picks) _ _ W' ⟨ea, ec, ca, cc, rfl, HEw.out.below hW', HCw.out.below hW'⟩ ⟨fa, fc, da, dc, ?_, ?_, ?_⟩ (by have := HRn.out.1; omega) (by have := HRn.out.2; omega)
        · rw [er]
        · rw [← er]; exact HFw.out.below hW'
        · rw [← er]; exact HDw.out.below hW'
      clear er h12 HEw HCw HFw HDw HRn
      go_wp2_with fail
      refine (HAl.out _ (Below.refl _ _)).mono ?_
      rintro e9 w9 ⟨rfl, hb⟩
      have HW9 : Hid (Below w.heap.size w w9) := HW7.out.trans (hb.mono HW7.out.size)
      clear hb
      go_wp2
      go_ret
      exact ⟨rfl, HW9.out⟩
end LW
end Go.Proofs.Ytheifjakpdeiaaa
