/-
  For all bytes and words: Words, Start and Bytes of the program answer as the document says, and what is handed in stays (MB3); no condition but that the listed tables hold what the program's own text lays.
-/
import Derived.Test.YtkilackhomhpgaaDoorCards
import Derived.Test.YtkilackhomhpgaaDoorTie
import Derived.Test.YtkilackhomhpgaaDoorArgs
import Derived.Test.YtkilackhomhpgaaDoorWordsLaw
import Derived.Test.YtkilackhomhpgaaDoorByteArgs
namespace Go.Proofs.YtkilackhomhpgaaDoor.mixbWords
open Go Go.ChangeShapes Go.WideShapes Go.ChangeAt Go.RowKit
set_option linter.unusedVariables false

set_option maxRecDepth 100000 in
theorem lifted (os : Os) (started : os.Started) (H : Type) (enc : TypeId × Value → H) :
    ReturnsInHanded {} Tryd.checked os 4 .any (fun w args => (Rows.mixbWordsSpec.pre enc Tryd.prog Tryd.f4 [] false w args ∧ laidMetH Tryd.prog MX.laidIO w) ∧ sizedMet enc Tryd.prog Tryd.f4 (OpenSpec.ofChange Rows.mixbWordsSpec) false w args)
      (Rows.mixbWordsSpec.post enc Tryd.prog Tryd.f4 false true false false) := by
  refine returnsInHanded_of_change_and (C := Tryd.checked) (X := fun w _ => laidMetH Tryd.prog MX.laidIO w) (fun _ _ _ hh h => h.of_heap hh) MX.own started (by kernel_rfl) Tryd.func4
    (ChangeSpec.witness_shaped (enc := enc) (C := Tryd.checked) (os := os) (X := fun w _ => laidMetH Tryd.prog MX.laidIO w) false (World.doorLaid Tryd.prog 42 os) #[.slice none 0 0, .agg #[.int .u64 0, .int .u64 0, .int .u64 0, .int .u64 0, .int .u64 0, .int .u64 0, .int .u64 0, .int .u64 0]] 8 rfl (World.shaped_of_RefB (by kernel_rfl) (by kernel_rfl)) (by kernel_rfl) (by kernel_rfl) (by kernel_rfl) (MX.doorIO os _)) ?_
  intro W base args ds gs before hval0 hW _ hsz hL _
  have hval : ∀ (j : Nat) t v, Tryd.f4.params[j]? = some t → args[j]? = some v → Value.okWide Tryd.prog W .any base t v := hval0
  have hW' := hW
  obtain ⟨p, q, hA0, hV, rfl, hfz, hnd⟩ := hW
  have hA : DataW.TrodAll enc Tryd.prog W 0 (fun _ => true) true Tryd.f4.params.toList args.toList ds p := hA0
  rw [Tryd.params4] at hA hval hsz
  obtain ⟨v0, vs0, d0, ds0, p0, q0, hargs, rfl, rfl, h0, r0⟩ := trodAll_cons hA
  obtain ⟨v1, vs1, d1, ds1, p1, q1, rfl, rfl, rfl, h1, r1⟩ := trodAll_cons r0
  obtain ⟨rfl, rfl, rfl⟩ := trodAll_nil r1
  obtain rfl : args = #[v0, v1] := by cases args; simp_all
  obtain ⟨rfl, rfl⟩ := trodVars_none hV
  have k0 := h0
  have lt0 : ∀ x ∈ p0, x.block < W.heap.size := by obtain ⟨m, hm⟩ := k0; exact DataW.trod_lt m _ _ _ hm
  obtain ⟨a0, cap0, z0, rfl, bz0, rz0, nz0, m0, hd0⟩ := MX.open_bytes h0 (hval 0 30 v0 rfl rfl)
  have n0 : z0.length ≤ 140737488351232 := by
    rcases hd0 with ⟨_, h⟩ | ⟨sp, h⟩
    · omega
    · rw [h] at hsz
      have := sized_slice hsz (j := 0) (t := 30) (e := 5) rfl rfl Tryd.underlying30
      rw [show Tryd.checked.prog.bytesOf 5 = 1 from MX.bytes5] at this
      simp only [lits, List.length_map, reachBytes] at this
      omega
  have k1 := h1
  have lt1 : ∀ x ∈ p1, x.block < W.heap.size := by obtain ⟨m, hm⟩ := k1; exact DataW.trod_lt m _ _ _ hm
  obtain ⟨z1, rfl, lz1, wz1⟩ := MX.open_words8 (hval 1 23 v1 rfl rfl) h1
  obtain ⟨ti, to⟩ := MX.of_laidIO hL
  clear hA0 hval0
  refine (MX.wordsWalk a0 cap0 z0 z1 W ti to bz0 rz0 nz0 n0 lz1 wz1).mono fun e W' ⟨he, bel⟩ => ?_
  subst he
  exact ⟨_, rfl, _, _, _, [], _, [], hW', trodAll_mk1 (shut_bool Tryd.underlying4 _), (trodAll_cons_mk (Below.trod MX.laidOut (by kernel_rfl) (of_decide_eq_true (by kernel_rfl)) k0 bel lt0) (trodAll_cons_mk (Below.trod MX.laidOut (by kernel_rfl) (of_decide_eq_true (by kernel_rfl)) k1 bel lt1) trodAll_mk0)), rfl, bel.frame _, fun h => by cases h⟩

theorem proved : Rows.MixbWordsSaid :=
  OpenClaim.holds_of_wide 4 Tryd.f4 rfl rfl rfl rfl rfl rfl rfl ⟨rfl, rfl, rfl, rfl, rfl⟩ rfl rfl rfl rfl rfl (by kernel_rfl) Tryd.func4 (by kernel_rfl)
    (of_decide_eq_true (by kernel_rfl)) (by unfold Func.isWrapper; first | (rw [if_pos (by decide +kernel)]; kernel_rfl) | (rw [if_neg (by decide +kernel)]; exact ⟨rfl, rfl⟩))
    (fun os started H enc _ => lifted os started H enc)

theorem card : Rows.MixbWordsCardSaid :=
  Claim7.holds_tied_plain_at .later [] [.data, .data] true (true, "20154a3650a96735df3c4b99dfb335622f5fef376e1d7209980f865a9a9bfb57") false
    proved (fun _ h => by cases h) (by kernel_rfl) (fun _ h => by cases h) mixbWords_row_tie rfl ⟨rfl, rfl⟩ (by kernel_rfl) rfl
    (fun f fn hf hfn => by
      obtain rfl : f = 4 := Option.some.inj ((show Tryd.prog.funcNamed "quern/quernlaw03.MixbWords" = some 4 by kernel_rfl).symm.trans hf) |>.symm
      obtain rfl : fn = Tryd.f4 := (Option.some.inj (Tryd.func4.symm.trans hfn)).symm
      exact ⟨by kernel_rfl, fun j t ht => by
        rw [Tryd.params4] at ht
        have hm : t ∈ [30, 23] := by simpa using Array.mem_of_getElem? ht
        have hall : ([30, 23].all fun u => !Tryd.prog.wantsStandIn u) = true := by kernel_rfl
        exact (show Tryd.prog.wantsStandIn t = false by simpa using List.all_eq_true.1 hall t hm)⟩)
    (by kernel_rfl)
end Go.Proofs.YtkilackhomhpgaaDoor.mixbWords

namespace Go.Proofs.YtkilackhomhpgaaDoor
/-- THE STATEMENT. -/
theorem mixbWords_holds : Rows.MixbWordsCardSaid := mixbWords.card
#print axioms mixbWords_holds
end Go.Proofs.YtkilackhomhpgaaDoor
