/-
  What the document's Unrow gives for every row of bytes: each part in memory of its own.
-/
import Derived.Test.YtkmokjnakglhbaaUnrow
namespace Go.Proofs.Ytkmokjnakglhbaa
open Go.RowKit Go.ChangeShapes
set_option linter.unusedVariables false
set_option linter.unusedSimpArgs false
namespace LW
open Words
theorem own_below {w w' : World} {B n : Nat} {v : Value} {xs : List Value} (h : w.ownsRow B 5 1 v n xs) (hb : Below w.heap.size w w') : w'.ownsRow B 5 1 v n xs := by
  obtain ⟨h1, h2⟩ := h
  refine ⟨h1, ?_⟩
  rcases h2 with h2 | ⟨g, cap, cur, e, hg, hh, rest⟩
  · exact .inl h2
  · exact .inr ⟨g, cap, cur, e, hg, by rw [hb.block g (Array.getElem?_eq_some_iff.1 hh).1]; exact hh, rest⟩
/-- 'append(nil, b...)', b nil or not: the same bytes in new memory. -/
theorem wpList_copy_row {w : World} {ops : Array Oper} {rest : List Oper} {o : Oper} {a : Act} {Q : Exit → Act → World → Prop} (hgd : o.guard = none) (s x : Operand)
    (ho : o.op = .call { callee := .builtin .append, args := #[s, x], argTypes := #[22, 22] }) (b : Option Addr) (cap : Nat) (zs : List Int) (len : Nat) (hlen : zs.length = len) (hs : a.eval s = .slice none 0 0) (hx : a.eval x = .slice b len cap)
    (hr : Row w b zs) (hn : b = none → cap = 0) (hm : len ≤ 140737488351232)
    (h : ∀ x' w', w'.ownsRow w.heap.size 5 1 x' len (vs zs) → Below w.heap.size w w' → wpList Try.prog ops Q rest (a.put o.dst x') w') : wpList Try.prog ops Q (o :: rest) a w := by
  obtain ⟨i0, hi, hz0, hz1, hz2⟩ := info_parts info5
  subst hlen
  cases b with
  | none =>
    obtain rfl := hn rfl
    obtain rfl : zs = [] := by rcases hr with h | ⟨b, off, h, _⟩ <;> first | exact h | cases h
    exact wpList_append_own_none hgd s x 22 ho w.heap.size 5 i0 1 Try.underlying22 hi _ 0 [] hs (World.ownsRow_nil _ _ _ _) hx (h _ _ (World.ownsRow_nil _ _ _ _) (Below.refl _ _))
  | some ad =>
    refine wpList_append_own _ hgd s x 22 ho w.heap.size 5 i0 (.int .u8 0) 1 1 Try.underlying22 hi hz0 hz1 hz2 rfl (by decide) _ 0 [] hs (World.ownsRow_nil _ _ _ _) ad zs.length cap (vs zs) hx (by rw [Nat.mul_one]; exact vs_length zs) (row_cells hr (Below.refl _ _)) (oneCell_vs zs) (by unfold maxLen; omega) (by omega) (Nat.le_refl _) ?_
    intro v' w2 hown' hgrow' _
    rw [Nat.zero_add] at hown'
    exact h _ _ hown' ((Below.refl _ _).grown hgrow' (Nat.le_refl _) (own_block (World.ownsRow_nil w w.heap.size 5 1)))
theorem own_kept {w w' : World} {B n : Nat} {v : Value} {xs : List Value} {row : Option Nat} (h : w.ownsRow B 5 1 v n xs) (hg : w.grownBy w' row) (hr : ∀ k, row = some k → ∃ c6 t, t ≠ 5 ∧ w.heap[k]? = some (.cells c6 t (0, 0))) : w'.ownsRow B 5 1 v n xs := by
  refine ⟨h.1, ?_⟩
  rcases h.2 with h | ⟨g, cap, cur, e, hb, hh, r⟩
  · exact .inl h
  · refine .inr ⟨g, cap, cur, e, hb, ?_, r⟩
    rw [hg.block g (Array.getElem?_eq_some_iff.1 hh).1 ?_]
    · exact hh
    · intro e7
      obtain ⟨c6, t, ht, h7⟩ := hr g e7.symm
      rw [hh] at h7
      simp at h7
      exact ht h7.2.symm
/-- The document's parts: each is a row of the call's own. -/
def DP (B : Nat) (zs : List Int) (c : Nat) (qs : List Value) (W : World) : Prop := qs.length = c ∧ ∀ j, j < c → ∃ v, qs[j]? = some v ∧ W.ownsRow B 5 1 v (pn zs j) (vs (pie zs j))
theorem DP.nil (B : Nat) (zs : List Int) (W : World) : DP B zs 0 [] W := ⟨rfl, fun j h => absurd h (Nat.not_lt_zero _)⟩
theorem DP.below {B c : Nat} {zs : List Int} {qs : List Value} {W W' : World} (h : DP B zs c qs W) (hb : Below W.heap.size W W') : DP B zs c qs W' := ⟨h.1, fun j hj => by
  obtain ⟨v, h1, h2⟩ := h.2 j hj
  exact ⟨v, h1, own_below h2 hb⟩⟩
theorem DP.grown {B c : Nat} {zs : List Int} {qs : List Value} {W W' : World} {row : Option Nat} (h : DP B zs c qs W) (hg : W.grownBy W' row) (hr : ∀ k, row = some k → ∃ c6 t, t ≠ 5 ∧ W.heap[k]? = some (.cells c6 t (0, 0))) : DP B zs c qs W' := ⟨h.1, fun j hj => by
  obtain ⟨v, h1, h2⟩ := h.2 j hj
  exact ⟨v, h1, own_kept h2 hg hr⟩⟩
theorem DP.alloc {B c : Nat} {zs : List Int} {qs : List Value} {W : World} (h : DP B zs c qs W) (o : Obj) : DP B zs c qs (W.alloc o) := ⟨h.1, fun j hj => by
  obtain ⟨v, h1, h2⟩ := h.2 j hj
  exact ⟨v, h1, h2.alloc o⟩⟩
theorem DP.snoc {B c n : Nat} {zs ys : List Int} {qs : List Value} {W : World} {v : Value} (h : DP B zs c qs W) (hn : pn zs c = n) (hy : pie zs c = ys) (hv : W.ownsRow B 5 1 v n (vs ys)) : DP B zs (c + 1) (qs ++ [v]) W := by
  refine ⟨by simp [h.1], fun j hj => ?_⟩
  by_cases e : j = c
  · subst e
    exact ⟨v, by rw [List.getElem?_append_right (by rw [h.1]; exact Nat.le_refl _), h.1, Nat.sub_self]; rfl, by rw [hn, hy]; exact hv⟩
  · obtain ⟨v', h1, h2⟩ := h.2 j (by omega)
    exact ⟨v', by rw [List.getElem?_append_left (by rw [h.1]; omega)]; exact h1, h2⟩
theorem Row.sub {w : World} {b off : Nat} {zs : List Int} (h : Row w (some ⟨b, off, none⟩) zs) (o n : Nat) (hn : o + n ≤ zs.length) : Row w (some ⟨b, off + o, none⟩) ((zs.drop o).take n) := by
  rcases h with rfl | ⟨b', off', he, hc⟩
  · left; simp
  · cases he
    refine .inr ⟨b, off + o, rfl, fun i hi => ?_⟩
    have hin : i < n := by simp at hi; omega
    rw [Nat.add_assoc, hc (o + i) (by omega)]
    simp [List.getD_eq_getElem?_getD, List.getElem?_drop, hin]
theorem own_mono' {w : World} {B B' n : Nat} {v : Value} {xs : List Value} (h : w.ownsRow B 5 1 v n xs) (hb : B' ≤ B) : w.ownsRow B' 5 1 v n xs :=
  ⟨h.1, h.2.imp id (fun ⟨g, cap, cur, e, hg, rest⟩ => ⟨g, cap, cur, e, Nat.le_trans hb hg, rest⟩)⟩
theorem own22_below {w w' : World} {B n : Nat} {v : Value} {xs : List Value} {t : TypeId} (h : w.ownsRow B t 1 v n xs) (hb : Below w.heap.size w w') : w'.ownsRow B t 1 v n xs := by
  obtain ⟨h1, h2⟩ := h
  refine ⟨h1, ?_⟩
  rcases h2 with h2 | ⟨g, cap, cur, e, hg, hh, rest⟩
  · exact .inl h2
  · exact .inr ⟨g, cap, cur, e, hg, by rw [hb.block g (Array.getElem?_eq_some_iff.1 hh).1]; exact hh, rest⟩
/-- What a call of the document's Unrow gives. -/
def RPost (zs : List Int) (w : World) (e : Ending) (w' : World) : Prop := ∃ (er at_ c : Nat) (v : Value) (qs : List Value), Res zs er at_ c ∧ e = .returned (.tuple #[v, .int .i64 (at_ : Int), .int .i64 (er : Int)]) ∧
      w'.ownsRow w.heap.size 22 1 v c qs ∧ DP w.heap.size zs c qs w' ∧ Below w.heap.size w w'
set_option maxRecDepth 100000 in
set_option maxHeartbeats 1600000 in
theorem runrowS (a : Option Addr) (cap : Nat) (zs : List Int) (w : World) (hz : Byt zs) (hr : Row w a zs) (hcap : zs.length ≤ cap) (hm : zs.length ≤ 16777216) :
    Calls Try.prog 6 #[.slice a zs.length cap] w fun e w' => RPost zs w e w' := by
  obtain ⟨i2, hi2, hy0, hy1, hy2⟩ := info_parts info22
  have hld := fun (W : World) (p : Nat) (hB : Below w.heap.size w W) (hp : p ≤ zs.length) => rload a cap zs (p : Int) 8 W hz (hr.below hB) (by unfold maxLen; omega) (by omega) (by omega) (by omega) (by omega)
  have hl8 := fun p (h : p + 8 ≤ zs.length) => ld_nm zs p hz h
  have hres : ∀ j er at_, Gd zs j → Out zs j er at_ → Res zs er at_ (if er = 0 then j else 0) := fun j er at_ h1 h2 => .inr ⟨hm, j, h1, h2, rfl⟩
  have hnb := fun p => nm_bd zs p hz
  have hcl : 0 < zs.length → ∃ b off, a = some ⟨b, off, none⟩ ∧ ∀ (W : World) (o n : Nat), Below w.heap.size w W → o + n ≤ zs.length → Row W (some ⟨b, off + o, none⟩) ((zs.drop o).take n) := by
    intro h
    have hr' := hr
    rcases hr with rfl | ⟨b, off, rfl, hc⟩
    · simp at h
    · exact ⟨b, off, rfl, fun W o n hW hn => (hr'.below hW).sub o n hn⟩
  obtain ⟨len, hlen⟩ : ∃ len, zs.length = len := ⟨_, rfl⟩
  rw [hlen] at hm hcap ⊢
  simp only [hlen] at hld hl8 hcl
  have HLEN := TW.hide hlen
  have HLD := TW.hide hld
  have HL8 := TW.hide hl8
  have HRES := TW.hide hres
  have HNB := TW.hide hnb
  have HCL := TW.hide hcl
  clear hld hl8 hres hnb hlen hr hz hcl
  have hle : ¬ (16777216 : Int) < (len : Int) := by omega
  go_enter Try.func6, Try.ntmps6
  go_wp2
  go_loopw [5, 6] (fun t5 t6 wr => ∃ (j p : Nat) (qs : List Value), Gd zs j ∧ pos zs j = p ∧ p ≤ len ∧ t6 = .int .i64 (p : Int) ∧ wr.ownsRow w.heap.size 22 1 t5 j qs ∧ DP w.heap.size zs j qs wr ∧ Below w.heap.size w wr) (fun _ t6 _ => len - (intOf t6).toNat)
  case atStart => exact ⟨0, 0, [], Gd.zero _, rfl, Nat.zero_le _, rfl, World.ownsRow_nil _ _ _ _, DP.nil _ _ _, Below.refl _ _⟩
  case round =>
    obtain ⟨j, p, qs, hgd, hp, hpl, rfl, hown, hdp, hbel⟩ := hrel
    have HGD := TW.hide hgd
    have HP := TW.hide hp
    have HOW := TW.hide hown
    have HDP := TW.hide hdp
    have HBE := TW.hide hbel
    have hwz := hbel.size
    clear hgd hp hown hdp hbel
    by_cases hm0 : p < len
    · obtain ⟨b, off, rfl, hsub⟩ := HCL.out (by omega)
      have HSB := TW.hide hsub
      clear hsub
      by_cases h8 : len < p + 8
      · go_wp2
        go_ret3
        refine ⟨4, p, 0, _, [], by simpa using HRES.out j 4 p HGD.out (.inr ⟨rfl, .inl ⟨HP.out.symm, by rw [HP.out, HLEN.out]; omega, by rw [HP.out, HLEN.out]; omega⟩⟩), rfl, World.ownsRow_nil _ _ _ _, DP.nil _ _ _, HBE.out⟩
      · obtain ⟨q, hq⟩ : ∃ q, len = p + 8 + q := ⟨len - p - 8, by omega⟩
        have HQ := TW.hide hq
        have HLX := TW.hide (HLD.out wr p HBE.out (by omega))
        have HX : Hid (ld zs p 8 = ((nm zs p : Int), 0)) := HL8.out p (by omega)
        rw [HX.out] at HLX
        have hnb := HNB.out p
        obtain ⟨s, hs⟩ : ∃ s, nm zs p = s := ⟨_, rfl⟩
        rw [hs] at HLX HX hnb
        have HS := TW.hide hs
        have e1 : IntKind.u64.wrap ((len : Int) - ((p : Int) + 8)) = (q : Int) := by rw [IntKind.wrap_u64]; omega
        clear hs hq
        by_cases hsq : q < s
        · go_wp2_with fail
          refine HLX.out.mono ?_
          rintro e w2 ⟨rfl, rfl⟩
          go_wp2
          go_ret3
          refine ⟨4, p + 8, 0, _, [], by simpa using HRES.out j 4 (p + 8) HGD.out (.inr ⟨rfl, .inr ⟨by rw [HP.out], by rw [HP.out, HLEN.out]; omega, by rw [pos_succ, pn, HP.out, HLEN.out, HS.out]; have := HQ.out; omega⟩⟩), ret_three (by omega), World.ownsRow_nil _ _ _ _, DP.nil _ _ _, HBE.out⟩
        · have hqp : p + 8 + q = len := HQ.out.symm
          have hsI : (s : Int) ≤ (q : Int) := by omega
          have hqI : (p : Int) + 8 + (q : Int) ≤ 16777216 := by omega
          have hcI : (p : Int) + 8 + (s : Int) ≤ (cap : Int) := by omega
          have hcJ : (p : Int) + 8 ≤ (cap : Int) := by omega
          have e2 : IntKind.i64.wrap (s : Int) = s := by rw [IntKind.wrap_i64]; omega
          by_cases hc8 : cap = p + 8
          · have hs0 : s = 0 := by omega
            have HS0 := TW.hide hs0
            have hcN : True := trivial
            subst hc8
            clear hs0
            have HPI : Hid (pie zs j = (zs.drop (p + 8)).take s) := by show pie zs j = _; rw [pie, pn, HP.out, HS.out]
            have HPL : Hid (((zs.drop (p + 8)).take s).length = s) := by show _ = _; simp <;> (have := HLEN.out; omega)
            have HRW : Hid (Row wr (some ⟨b, off, none⟩) ((zs.drop (p + 8)).take s)) := .inl (by rw [HS0.out]; simp)
            have hj8 := pos_ge zs j
            rw [HP.out] at hj8
            go_wp2_with fail
            refine HLX.out.mono ?_
            rintro e w2 ⟨rfl, rfl⟩
            clear HLX HX HRES HNB HL8 HLD HCL HSB
            go_wp2_with (at_builtin; refine wpList_copy_row rfl _ _ rfl (some ⟨b, off, none⟩) 0 ((zs.drop (p + 8)).take s) s HPL.out rfl ?cx HRW.out (fun h => by cases h) (by omega) ?_)
            case cx => first | rfl | (simp [Act.eval, hcN]; done) | (simp [Act.eval, hcN]; trace_state; omega)
            intro v9 w3 hown9 hbel9
            obtain ⟨a9, c9, rfl⟩ : ∃ a9 c9, v9 = .slice a9 s c9 := by
              rcases hown9.2 with ⟨rfl, h0⟩ | ⟨g, cap', cur, rfl, _⟩
              · exact ⟨none, 0, by rw [h0]⟩
              · exact ⟨_, _, rfl⟩
            have O9 := TW.hide (own_mono' hown9 hwz)
            have R3 := TW.hide (own22_below HOW.out hbel9)
            have D3 := TW.hide (HDP.out.below hbel9)
            have B3 : Hid (Below w.heap.size w w3) := HBE.out.trans (hbel9.mono hwz)
            have hwz3 : w.heap.size ≤ w3.heap.size := B3.out.size
            clear hown9 hbel9
            go_wp2_with (at_builtin; refine wpList_append_own _ rfl _ _ 24 rfl w.heap.size 22 i2 (.slice none 0 0) 1 24 Try.underlying24 hi2 hy0 hy1 hy2 rfl (by decide) _ j qs rfl (R3.out.alloc _) ⟨w3.heap.size, 0, none⟩ 1 1 [.slice a9 s c9] ?c6 rfl ?c1 ?c2 ?c3 ?c4 ?c5 ?_)
            case c6 => rfl
            case c1 => exact one_new22 _ _
            case c2 => intro u hu; simp at hu; subst hu; rfl
            case c3 => unfold maxLen; omega
            case c4 => omega
            case c5 => first | (simp; omega) | simp
            intro v' w5 hown5 hgrow5 _
            have O5 := TW.hide hown5
            have B5 : Hid (Below w.heap.size w w5) := (B3.out.alloc hwz3 _).grown hgrow5 (by first | (simp; omega) | simp) (own_blk R3.out)
            have D5 : Hid (DP w.heap.size zs (j + 1) (qs ++ [.slice a9 s c9]) w5) := ((D3.out.snoc (by rw [pn, HP.out, HS.out]) HPI.out O9.out).alloc _).grown hgrow5 (own_type (R3.out.alloc _))
            clear hown5 hgrow5
            go_wp2
            go_roundw
            case rel => exact ⟨j + 1, p + 8 + s, _, HGD.out.succ (by rw [pos_succ, pn, HP.out, HLEN.out, HS.out] <;> omega), by rw [pos_succ, pn, HP.out, HS.out], by omega, by go_num, O5.out, D5.out, B5.out⟩
            case measure => simp [intOf]; omega
          · have hcN : ¬ cap = p + 8 := hc8
            have HPI : Hid (pie zs j = (zs.drop (p + 8)).take s) := by show pie zs j = _; rw [pie, pn, HP.out, HS.out]
            have HPL : Hid (((zs.drop (p + 8)).take s).length = s) := by show _ = _; simp <;> (have := HLEN.out; omega)
            have HRW : Hid (Row wr (some ⟨b, off + (p + 8), none⟩) ((zs.drop (p + 8)).take s)) := HSB.out wr (p + 8) s HBE.out (by omega)
            have hj8 := pos_ge zs j
            rw [HP.out] at hj8
            go_wp2_with fail
            refine HLX.out.mono ?_
            rintro e w2 ⟨rfl, rfl⟩
            clear HLX HX HRES HNB HL8 HLD HCL HSB
            go_wp2_with (at_builtin; refine wpList_copy_row rfl _ _ rfl (some ⟨b, off + (p + 8), none⟩) (cap - (p + 8)) ((zs.drop (p + 8)).take s) s HPL.out rfl ?cx HRW.out (fun h => by cases h) (by omega) ?_)
            case cx => first | rfl | (simp [Act.eval, hcN]; done) | (simp [Act.eval, hcN]; trace_state; omega)
            intro v9 w3 hown9 hbel9
            obtain ⟨a9, c9, rfl⟩ : ∃ a9 c9, v9 = .slice a9 s c9 := by
              rcases hown9.2 with ⟨rfl, h0⟩ | ⟨g, cap', cur, rfl, _⟩
              · exact ⟨none, 0, by rw [h0]⟩
              · exact ⟨_, _, rfl⟩
            have O9 := TW.hide (own_mono' hown9 hwz)
            have R3 := TW.hide (own22_below HOW.out hbel9)
            have D3 := TW.hide (HDP.out.below hbel9)
            have B3 : Hid (Below w.heap.size w w3) := HBE.out.trans (hbel9.mono hwz)
            have hwz3 : w.heap.size ≤ w3.heap.size := B3.out.size
            clear hown9 hbel9
            go_wp2_with (at_builtin; refine wpList_append_own _ rfl _ _ 24 rfl w.heap.size 22 i2 (.slice none 0 0) 1 24 Try.underlying24 hi2 hy0 hy1 hy2 rfl (by decide) _ j qs rfl (R3.out.alloc _) ⟨w3.heap.size, 0, none⟩ 1 1 [.slice a9 s c9] ?c6 rfl ?c1 ?c2 ?c3 ?c4 ?c5 ?_)
            case c6 => rfl
            case c1 => exact one_new22 _ _
            case c2 => intro u hu; simp at hu; subst hu; rfl
            case c3 => unfold maxLen; omega
            case c4 => omega
            case c5 => first | (simp; omega) | simp
            intro v' w5 hown5 hgrow5 _
            have O5 := TW.hide hown5
            have B5 : Hid (Below w.heap.size w w5) := (B3.out.alloc hwz3 _).grown hgrow5 (by first | (simp; omega) | simp) (own_blk R3.out)
            have D5 : Hid (DP w.heap.size zs (j + 1) (qs ++ [.slice a9 s c9]) w5) := ((D3.out.snoc (by rw [pn, HP.out, HS.out]) HPI.out O9.out).alloc _).grown hgrow5 (own_type (R3.out.alloc _))
            clear hown5 hgrow5
            go_wp2
            go_roundw
            case rel => exact ⟨j + 1, p + 8 + s, _, HGD.out.succ (by rw [pos_succ, pn, HP.out, HLEN.out, HS.out] <;> omega), by rw [pos_succ, pn, HP.out, HS.out], by omega, by go_num, O5.out, D5.out, B5.out⟩
            case measure => simp [intOf]; omega
    · obtain rfl : p = len := by omega
      go_wp2
      go_ret3
      refine ⟨0, 0, j, _, qs, by simpa using HRES.out j 0 0 HGD.out (.inl ⟨rfl, rfl, by rw [HP.out, HLEN.out]⟩), rfl, HOW.out, HDP.out, HBE.out⟩
theorem runrowL (a : Option Addr) (cap len : Nat) (w : World) (hm : 16777216 < len) (hM : len ≤ 9223372036854775807) :
    Calls Try.prog 6 #[.slice a len cap] w fun e w' => e = .returned (.tuple #[.slice none 0 0, .int .i64 0, .int .i64 2]) ∧ w = w' := by
  have hle : (16777216 : Int) < (len : Int) := by omega
  go_enter Try.func6, Try.ntmps6
  go_wp2
  go_ret3
  exact ⟨rfl, rfl⟩
theorem runrow (a : Option Addr) (cap : Nat) (zs : List Int) (w : World) (hz : Byt zs) (hr : Row w a zs) (hcap : zs.length ≤ cap) (hM : zs.length ≤ maxLen) :
    Calls Try.prog 6 #[.slice a zs.length cap] w fun e w' => RPost zs w e w' := by
  by_cases hm : zs.length ≤ 16777216
  · exact runrowS a cap zs w hz hr hcap hm
  · refine (runrowL a cap zs.length w (by omega) (by unfold maxLen at hM; omega)).mono ?_
    rintro e w' ⟨rfl, rfl⟩
    exact ⟨2, 0, 0, _, [], .inl ⟨by omega, rfl, rfl, rfl⟩, rfl, World.ownsRow_nil _ _ _ _, DP.nil _ _ _, Below.refl _ _⟩
end LW
end Go.Proofs.Ytkmokjnakglhbaa
