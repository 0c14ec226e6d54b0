/-
  A step.
-/
import Derived.Test.YtheifjakpdeiaaaPgD
import Derived.Test.YtheifjakpdeiaaaPgX
namespace Go.Proofs.Ytheifjakpdeiaaa
open Go.RowKit
set_option linter.unusedVariables false
set_option linter.unusedSimpArgs false
namespace LW
open Mc
def insV (i : Ins) : Array Value := #[.int .i64 i.op, .int .i64 i.a, .int .i64 i.b, .int .i64 i.c]
theorem nat_of {x n : Int} (h : 0 ≤ x ∧ x < n) : ∃ c : Nat, x = (c : Int) ∧ (c : Int) < n := ⟨x.toNat, by omega, by omega⟩
set_option maxRecDepth 100000 in
set_option maxHeartbeats 4000000 in
theorem pdo {o : World} {g : Nat} {s : Syst} {pa : Option Addr} {pc : Nat} {t : St} {m : PV} (k eb ecap : Nat) (w : World) (h : PM o w g s pa pc { t with evs := t.evs ++ [⟨(k : Int), (ins s t k).op, 0, 0, false⟩] } m) (ho : Mc.Ok s) (hg : Mc.Good s t) (hk : k < t.rns.length) (hen : (Mc.rn t k).ended = false) (he : m.ev = .slice (some ⟨eb, 0, none⟩) (t.evs.length + 1) ecap) :
    Calls Try.prog 36 #[.pointer (some ⟨g, 0, none⟩), .pointer (some ⟨m.ps.getD k 0, 0, none⟩), .agg (insV (ins s t k)), .pointer (some ⟨eb, t.evs.length * 5, none⟩)] w (DoQ o g s pa pc t m k) := by
  have hr := ins_right ho hg hk hen
  have hps := (hg.gr k hk).ps hen
  have hpr := (hg.gr k hk).pr
  have hpl := ho.pl (Mc.rn t k).prog.toNat (by omega)
  rw [pg_eq] at hpl
  obtain ⟨p, hpo⟩ : ∃ p : Nat, (Mc.rn t k).pos = (p : Int) := ⟨(Mc.rn t k).pos.toNat, by omega⟩
  have hat : aT s (Mc.rn t k) = (p : Int) := by unfold aT; rw [hen]; exact hpo
  have hp1 : p ≤ 256 := by omega
  have hl := hg.hl
  have h2 := hg.ll
  have h3 := hg.gl
  have h4 := hg.cl
  have h5 := ho.c1
  have hcq : ∀ c, c < t.held.length → (t.held.getD c []).length ≤ 1024 := fun c hc => by
    have a1 := hg.hr c (by omega)
    have a2 := ho.rm c (by omega)
    omega
  have hcel : 0 < s.cells → ∀ r, ∃ cj : Nat, cj < t.cells.length ∧ reg t k r % (t.cells.length : Int) = (cj : Int) := fun hc r => by
    have a1 := Int.emod_nonneg (reg t k r) (show (t.cells.length : Int) ≠ 0 by omega)
    have a2 := Int.emod_lt_of_pos (reg t k r) (show (0 : Int) < t.cells.length by omega)
    exact ⟨(reg t k r % (t.cells.length : Int)).toNat, by omega, by omega⟩
  have hc64 : t.cells.length ≤ 64 := by omega
  generalize (Mc.rn t k).prog.toNat = pr at *
  obtain ⟨I, hI⟩ : ∃ I, ins s t k = I := ⟨_, rfl⟩
  rw [hI] at hr h ⊢
  obtain ⟨op, a0, a1, a2⟩ := I
  obtain ⟨o1, o2, f0, f1, f2, f3⟩ := hr
  change 1 ≤ op at o1
  change op ≤ 16 at o2
  change fitM s pr ((fdM op).getD 0 0) a0 at f0
  change fitM s pr ((fdM op).getD 1 0) a1 at f1
  change fitM s pr ((fdM op).getD 2 0) a2 at f2
  change (op = 12 ∨ op = 13) → 0 < s.cells at f3
  change PM o w g s pa pc { t with evs := t.evs ++ [⟨(k : Int), op, 0, 0, false⟩] } m at h
  show Calls _ _ #[_, _, .agg #[.int .i64 op, .int .i64 a0, .int .i64 a1, .int .i64 a2], _] _ _
  rcases op16 o1 o2 with rfl | rfl | rfl | rfl | rfl | rfl | rfl | rfl | rfl | rfl | rfl | rfl | rfl | rfl | rfl | rfl
  · obtain ⟨r, rfl, hr⟩ := nat_of (fit_r f0)
    exact pdo1 k p r a1 a2 eb ecap w h ho hg hk hI hpo hat hp1 (by omega) he
  · obtain ⟨r, rfl, hr⟩ := nat_of (fit_r f0)
    obtain ⟨q, rfl, hq⟩ := nat_of (fit_r f1)
    exact pdo2 k p r q a2 eb ecap w h ho hg hk hI hpo hat hp1 (by omega) (by omega) he
  · obtain ⟨r, rfl, hr⟩ := nat_of (fit_r f0)
    obtain ⟨q, rfl, hq⟩ := nat_of (fit_r f1)
    exact pdo3 k p r q a2 eb ecap w h ho hg hk hI hpo hat hp1 (by omega) (by omega) he
  · exact pdo4 k p a0 a1 a2 eb ecap w h ho hg hk hI hpo hat hp1 he
  · obtain ⟨c, rfl, hc⟩ := nat_of (fit_c f0)
    obtain ⟨r, rfl, hr⟩ := nat_of (fit_r f1)
    exact pdoS k p 5 _ _ a2 eb ecap w h ho hg hk hI hpo hat hp1 (by decide) (fun W hW => psh5 k c r p a2 eb ecap W hW ho hg hk hI hpo hat hp1 (by omega) (by omega) (hcq c (by omega)) he) he
  · obtain ⟨c, rfl, hc⟩ := nat_of (fit_c f0)
    obtain ⟨r, rfl, hr⟩ := nat_of (fit_r f1)
    exact pdoS k p 6 _ _ a2 eb ecap w h ho hg hk hI hpo hat hp1 (by decide) (fun W hW => psh6 k c r p a2 eb ecap W hW ho hg hk hI hpo hat hp1 (by omega) (by omega) (hcq c (by omega)) he) he
  · obtain ⟨c, rfl, hc⟩ := nat_of (fit_c f0)
    exact pdoS k p 7 _ a1 a2 eb ecap w h ho hg hk hI hpo hat hp1 (by decide) (fun W hW => psh7 k c p a1 a2 eb ecap W hW ho hg hk hI hpo hat hp1 (by omega) he) he
  · obtain ⟨c, rfl, hc⟩ := nat_of (fit_l f0)
    exact pdoS k p 8 _ a1 a2 eb ecap w h ho hg hk hI hpo hat hp1 (by decide) (fun W hW => psh8 k c p a1 a2 eb ecap W hW ho hg hk hI hpo hat hp1 (by omega) he) he
  · obtain ⟨c, rfl, hc⟩ := nat_of (fit_l f0)
    exact pdoS k p 9 _ a1 a2 eb ecap w h ho hg hk hI hpo hat hp1 (by decide) (fun W hW => psh9 k c p a1 a2 eb ecap W hW ho hg hk hI hpo hat hp1 (by omega) he) he
  · obtain ⟨c, rfl, hc⟩ := nat_of (fit_g f0)
    exact pdoS k p 10 _ a1 a2 eb ecap w h ho hg hk hI hpo hat hp1 (by decide) (fun W hW => psh10 k c p a1 a2 eb ecap W hW ho hg hk hI hpo hat hp1 (by omega) he) he
  · obtain ⟨c, rfl, hc⟩ := nat_of (fit_g f0)
    exact pdoS k p 11 _ a1 a2 eb ecap w h ho hg hk hI hpo hat hp1 (by decide) (fun W hW => psh11 k c p a1 a2 eb ecap W hW ho hg hk hI hpo hat hp1 he) he
  · obtain ⟨r, rfl, hr⟩ := nat_of (fit_r f0)
    obtain ⟨q, rfl, hq⟩ := nat_of (fit_r f1)
    obtain ⟨cj, hcj1, hcj2⟩ := hcel (f3 (.inl rfl)) (r : Int)
    exact pdo12 k p r q cj a2 eb ecap w h ho hg hk hI hpo hat hp1 (by omega) (by omega) hcj1 hc64 hcj2 he
  · obtain ⟨r, rfl, hr⟩ := nat_of (fit_r f0)
    obtain ⟨q, rfl, hq⟩ := nat_of (fit_r f1)
    obtain ⟨cj, hcj1, hcj2⟩ := hcel (f3 (.inr rfl)) (r : Int)
    exact pdo13 k p r q cj a2 eb ecap w h ho hg hk hI hpo hat hp1 (by omega) (by omega) hcj1 hc64 hcj2 he
  · obtain ⟨c, rfl, hc⟩ := nat_of (fit_s f0)
    exact pdoS k p 14 _ a1 a2 eb ecap w h ho hg hk hI hpo hat hp1 (by decide) (fun W hW => psh14 k c p a1 a2 eb ecap W hW ho hg hk hI hpo hat hp1 (by omega) he) he
  · obtain ⟨r, rfl, hr⟩ := nat_of (fit_r f1)
    exact pdoS k p 15 a0 _ a2 eb ecap w h ho hg hk hI hpo hat hp1 (by decide) (fun W hW => psh15 k r p a0 a2 eb ecap W hW ho hg hk hI hpo hat hp1 (by omega) he) he
  · exact pdo16 k p a0 a1 a2 eb ecap w h ho hg hk hI hpo hat hp1 he
theorem prn_t {s : Syst} {t : St} {k : Nat} (h1 : (ins s t k).op ≠ 1) (h2 : (ins s t k).op ≠ 2) (h6 : ¬ ((ins s t k).op = 6 ∧ t.held.getD (ins s t k).a.toNat [] ≠ [])) (h12 : (ins s t k).op ≠ 12) (h14 : (ins s t k).op ≠ 14) : prn s t k = t.rns := by
  unfold prn
  rw [if_neg h1, if_neg h2, if_neg h6, if_neg h12, if_neg h14]
theorem nx_o {s : Syst} {t : St} {k : Nat} (h3 : (ins s t k).op ≠ 3) (h4 : (ins s t k).op ≠ 4) (h16 : (ins s t k).op ≠ 16) (h6 : ¬ ((ins s t k).op = 6 ∧ t.held.getD (ins s t k).a.toNat [] = [])) : nx s t k = (Mc.rn t k).pos + 1 := by
  unfold nx
  rw [if_neg h3, if_neg h4, if_neg h16, if_neg h6]
theorem actR (s : Syst) (t : St) (k : Nat) : bad s t k = 0 → (((act s t k).st.rns = prn s t k ∧ nx s t k = (Mc.rn t k).pos + 1) ∨ ∃ y, (act s t k).st.rns = (prn s t k).set k y ∧ prn s t k = t.rns ∧ y.prog = (Mc.rn t k).prog ∧ y.regs = (Mc.rn t k).regs ∧ ((y.ended = (Mc.rn t k).ended ∧ y.pos + 1 = nx s t k) ∨ (y.ended = true ∧ nx s t k = ((pg s (Mc.rn t k).prog).length : Int)))) := by
  intro hb
  by_cases h57 : 5 ≤ (ins s t k).op ∧ (ins s t k).op ≤ 7
  · have ha : act s t k = chan s t k := by unfold act; rw [if_pos h57]
    rw [ha]
    by_cases h5 : (ins s t k).op = 5
    · rw [prn_t (by omega) (by omega) (fun hh => by have := hh.1; omega) (by omega) (by omega)]
      by_cases h2 : t.shut.getD (ins s t k).a.toNat false = true
      · rw [chan5s h5 h2]; exact .inl ⟨rfl, nx_o (by omega) (by omega) (by omega) (fun hh => by have := hh.1; omega)⟩
      · rw [chan5 h5 h2]; exact .inl ⟨rfl, nx_o (by omega) (by omega) (by omega) (fun hh => by have := hh.1; omega)⟩
    by_cases h6 : (ins s t k).op = 6
    · by_cases h2 : t.held.getD (ins s t k).a.toNat [] = []
      · rw [chan6e h6 h2, prn_t (by omega) (by omega) (fun hh => hh.2 h2) (by omega) (by omega)]
        refine .inr ⟨_, rfl, rfl, rfl, rfl, .inl ⟨rfl, ?_⟩⟩
        unfold nx
        rw [if_neg (by omega), if_neg (by omega), if_neg (by omega), if_pos ⟨h6, h2⟩]
        show (ins s t k).c - 1 + 1 = _
        omega
      · have hn := nx_o (s := s) (t := t) (k := k) (by omega) (by omega) (by omega) (fun hh => h2 hh.2)
        rw [chan6 h6 h2, hn]
        unfold prn
        rw [if_neg (by omega), if_neg (by omega), if_pos ⟨h6, h2⟩]
        exact .inl ⟨rfl, rfl⟩
    have h7 : (ins s t k).op = 7 := by omega
    rw [prn_t (by omega) (by omega) (fun hh => by have := hh.1; omega) (by omega) (by omega)]
    by_cases h2 : t.shut.getD (ins s t k).a.toNat false = true
    · rw [chan7s h7 h2]; exact .inl ⟨rfl, nx_o (by omega) (by omega) (by omega) (fun hh => by have := hh.1; omega)⟩
    · rw [chan7 h7 h2]; exact .inl ⟨rfl, nx_o (by omega) (by omega) (by omega) (fun hh => by have := hh.1; omega)⟩
  by_cases h815 : 8 ≤ (ins s t k).op ∧ (ins s t k).op ≤ 15
  · have ha : act s t k = shar s t k := by unfold act; rw [if_neg h57, if_pos h815]
    rw [bad, ha] at hb
    have hn : nx s t k = (Mc.rn t k).pos + 1 := nx_o (by omega) (by omega) (by omega) (fun hh => by have := hh.1; omega)
    rw [ha, hn]
    by_cases h12 : (ins s t k).op = 12
    · have e : (shar s t k).st.rns = setR t k (ins s t k).b (t.cells.getD (cel s t k).toNat 0) := by
        unfold shar
        rw [if_neg (by omega), if_neg (by omega), if_neg (by omega), if_pos h12]
      rw [e]
      unfold prn
      rw [if_neg (by omega), if_neg (by omega), if_neg (fun hh => by have := hh.1; omega), if_pos h12]
      exact .inl ⟨rfl, rfl⟩
    by_cases h14 : (ins s t k).op = 14
    · by_cases h2 : 512 ≤ t.rns.length
      · exfalso
        unfold shar at hb
        rw [if_neg (by omega), if_neg (by omega), if_neg (by omega), if_neg (by omega), if_neg (by omega), if_pos h14, if_pos h2] at hb
        exact absurd (show (135 : Int) = 0 from hb) (by decide)
      · have e : (shar s t k).st.rns = t.rns ++ [⟨(ins s t k).a, 0, (Mc.rn t k).regs, (pg s (ins s t k).a).isEmpty⟩] := by
          unfold shar
          rw [if_neg (by omega), if_neg (by omega), if_neg (by omega), if_neg (by omega), if_neg (by omega), if_pos h14, if_neg h2]
        rw [e]
        unfold prn
        rw [if_neg (by omega), if_neg (by omega), if_neg (fun hh => by have := hh.1; omega), if_neg (by omega), if_pos h14]
        exact .inl ⟨rfl, rfl⟩
    · rw [prn_t (by omega) (by omega) (fun hh => by have := hh.1; omega) h12 h14]
      left
      refine ⟨?_, rfl⟩
      unfold shar
      repeat' split
      all_goals first | rfl | (exfalso; omega)
  · have ha : act s t k = ⟨0, 0, false, 0, { t with rns := own s t k }⟩ := by unfold act; rw [if_neg h57, if_neg h815]
    rw [ha]
    by_cases h1 : (ins s t k).op = 1
    · have e : own s t k = prn s t k := by unfold own prn; rw [if_pos h1, if_pos h1]
      exact .inl ⟨e, nx_o (by omega) (by omega) (by omega) (fun hh => by have := hh.1; omega)⟩
    by_cases h2 : (ins s t k).op = 2
    · have e : own s t k = prn s t k := by unfold own prn; rw [if_neg h1, if_pos h2, if_neg h1, if_pos h2]
      exact .inl ⟨e, nx_o (by omega) (by omega) (by omega) (fun hh => by have := hh.1; omega)⟩
    have hp := prn_t (s := s) (t := t) (k := k) h1 h2 (fun hh => by have := hh.1; omega) (by omega) (by omega)
    rw [hp]
    by_cases h3 : (ins s t k).op = 3
    · by_cases hlt : reg t k (ins s t k).a < reg t k (ins s t k).b
      · have e : own s t k = setP t k ((ins s t k).c - 1) := by unfold own; rw [if_neg h1, if_neg h2, if_pos h3, if_pos hlt]
        refine .inr ⟨_, e, rfl, rfl, rfl, .inl ⟨rfl, ?_⟩⟩
        unfold nx
        rw [if_pos h3, if_pos hlt]
        show (ins s t k).c - 1 + 1 = _
        omega
      · have e : own s t k = t.rns := by unfold own; rw [if_neg h1, if_neg h2, if_pos h3, if_neg hlt]
        refine .inl ⟨e, ?_⟩
        unfold nx
        rw [if_pos h3, if_neg hlt]
    by_cases h4 : (ins s t k).op = 4
    · have e : own s t k = setP t k ((ins s t k).c - 1) := by unfold own; rw [if_neg h1, if_neg h2, if_neg h3, if_pos h4]
      refine .inr ⟨_, e, rfl, rfl, rfl, .inl ⟨rfl, ?_⟩⟩
      unfold nx
      rw [if_neg h3, if_pos h4]
      show (ins s t k).c - 1 + 1 = _
      omega
    by_cases h16 : (ins s t k).op = 16
    · have e : own s t k = t.rns.set k { Mc.rn t k with ended := true } := by unfold own; rw [if_neg h1, if_neg h2, if_neg h3, if_neg h4, if_pos h16]
      refine .inr ⟨_, e, rfl, rfl, rfl, .inr ⟨rfl, ?_⟩⟩
      unfold nx
      rw [if_neg h3, if_neg h4, if_pos h16]
    · have e : own s t k = t.rns := by unfold own; rw [if_neg h1, if_neg h2, if_neg h3, if_neg h4, if_neg h16]
      exact .inl ⟨e, nx_o h3 h4 h16 (fun hh => by have := hh.1; omega)⟩
theorem actP (s : Syst) (t : St) (k : Nat) (hb : bad s t k = 0) : prn s t k = t.rns ∨ (∃ r x, prn s t k = setR t k r x) ∨ ∃ r, prn s t k = t.rns ++ [r] := by
  unfold prn
  repeat' split
  · exact .inr (.inl ⟨_, _, rfl⟩)
  · exact .inr (.inl ⟨_, _, rfl⟩)
  · exact .inr (.inl ⟨_, _, rfl⟩)
  · exact .inr (.inl ⟨_, _, rfl⟩)
  · exact .inr (.inr ⟨_, rfl⟩)
  · exact .inl rfl
theorem prn_k (s : Syst) (t : St) (k : Nat) (hk : k < t.rns.length) (hb : bad s t k = 0) : k < (prn s t k).length ∧ ((prn s t k).getD k r0).prog = (Mc.rn t k).prog ∧ ((prn s t k).getD k r0).pos = (Mc.rn t k).pos ∧ ((prn s t k).getD k r0).ended = (Mc.rn t k).ended := by
  rcases actP s t k hb with e | ⟨r, x, e⟩ | ⟨r, e⟩ <;> rw [e]
  · exact ⟨hk, rfl, rfl, rfl⟩
  · refine ⟨by rw [setR_len]; exact hk, ?_⟩
    unfold Mc.setR
    rw [rn_set t k k _ hk, if_pos rfl]
    exact ⟨rfl, rfl, rfl⟩
  · refine ⟨by simp; omega, ?_⟩
    have : (t.rns ++ [r]).getD k r0 = Mc.rn t k := by rw [Mc.rn, List.getD_eq_getElem?_getD, List.getElem?_append_left hk, ← List.getD_eq_getElem?_getD]
    rw [this]
    exact ⟨rfl, rfl, rfl⟩
/-- The place behind an instruction. -/
theorem step_fin {s : Syst} {t : St} {k : Nat} (ho : Mc.Ok s) (hn : Mc.Nm s) (hg : Mc.Good s t) (hk : k < t.rns.length) (hc : Mc.can s t k = true) (hb : bad s t k = 0) (iv : Nat → Value) : ∃ r, Mc.step s t k = { mid s t k with rns := (prn s t k).set k r } ∧ rpC s iv r = (rpC s iv (Mc.rn (mid s t k) k)).setIfInBounds 1 (.int .i64 (nx s t k)) := by
  have hen := can_going hc
  obtain ⟨hkp, p1, p2, p3⟩ := prn_k s t k hk hb
  have hmid := (act_mid ho hn hg hk hc).1
  obtain ⟨y, hy, y1, y2, y3⟩ : ∃ y, (act s t k).st.rns = (prn s t k).set k y ∧ y.prog = (Mc.rn t k).prog ∧ y.regs = ((prn s t k).getD k r0).regs ∧ ((y.ended = false ∧ y.pos + 1 = nx s t k) ∨ (y.ended = true ∧ nx s t k = ((pg s (Mc.rn t k).prog).length : Int))) := by
    rcases actR s t k hb with ⟨e, hx⟩ | ⟨y, e, hp, y1, y2, y3⟩
    · refine ⟨(prn s t k).getD k r0, ?_, p1, rfl, .inl ⟨by rw [p3]; exact hen, by rw [p2, hx]⟩⟩
      rw [e, List.getD_eq_getElem?_getD, List.getElem?_eq_getElem hkp]
      simp
    · refine ⟨y, e, y1, by rw [y2, hp]; rfl, ?_⟩
      rcases y3 with ⟨a, b⟩ | h
      · exact .inl ⟨by rw [a]; exact hen, b⟩
      · exact .inr h
  have hyk : (act s t k).st.rns.getD k r0 = y := by rw [hy]; exact Mc.getD_set_eq _ _ _ hkp
  have hm2 := hmid.me
  rw [hyk] at hm2
  refine ⟨{ y with pos := y.pos + 1, ended := y.ended || decide (((pg s y.prog).length : Int) ≤ y.pos + 1) }, ?_, ?_⟩
  · unfold Mc.step
    rw [if_neg (by simp [hb])]
    show St.mk _ _ _ _ _ _ _ = St.mk _ _ _ _ _ _ _
    congr 1
    unfold Mc.on
    rw [hyk, hy, List.set_set]
  · show rpC s iv _ = (rpC s iv ((prn s t k).getD k r0)).setIfInBounds 1 _
    unfold rpC
    have ea : aT s { y with pos := y.pos + 1, ended := y.ended || decide (((pg s y.prog).length : Int) ≤ y.pos + 1) } = nx s t k := by
      unfold aT
      dsimp only
      rcases y3 with ⟨a, b⟩ | ⟨a, b⟩
      · rw [a, b]
        have hp2 := hm2.pb
        rw [y1, ← b] at *
        by_cases hle : ((pg s (Mc.rn t k).prog).length : Int) ≤ y.pos + 1
        · simp [hle]
          omega
        · simp [hle]
      · rw [a, b, y1]
        rfl
    rw [ea]
    dsimp only
    rw [y1, y2, p1]
    rfl
end LW
end Go.Proofs.Ytheifjakpdeiaaa
