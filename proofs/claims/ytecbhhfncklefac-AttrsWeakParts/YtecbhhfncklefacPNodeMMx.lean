/- The numbers of a node, one behind the other, where there are enough bytes; nothing but the reader turns. -/
import Derived.Test.YtecbhhfncklefacStorePartRegRowPBoxMx
namespace Go.Proofs.Ytecbhhfncklefac
set_option linter.unusedVariables false
open Go.RowKit

/-- The reader k bytes on. -/
def Rd.at (s : Rd) (k : Nat) : Rd := ⟨s.r.drop k, s.n + k, 0⟩
theorem at_zero {s : Rd} (h : s.e = 0) : s.at 0 = s := by
  show (⟨s.r.drop 0, s.n + 0, 0⟩ : Rd) = s
  rw [List.drop_zero, Nat.add_zero, ← h]
theorem at_more (s : Rd) (k m : Nat) : (⟨(s.at k).r.drop m, (s.at k).n + m, 0⟩ : Rd) = s.at (k + m) := by
  show (⟨(s.r.drop k).drop m, s.n + k + m, 0⟩ : Rd) = ⟨s.r.drop (k + m), s.n + (k + m), 0⟩
  rw [List.drop_drop, Nat.add_assoc]
theorem aft_full {α : Type} {c : Codec α} {L : Nat} {val : List Int → α} (hf : c.Fix L val) {s s' : Rd} {v : α} (he : s.e = 0) (hl : L ≤ s.r.length) (h : Aft c s v s') : v = val s.r ∧ s' = ⟨s.r.drop L, s.n + L, 0⟩ := by
  have hd := hf.all s.r s.n hl
  rw [← Rd.clean s he] at hd
  have h1 := h.e
  rw [hd] at h1
  have h2 := h.eq h1
  rw [hd] at h2
  exact Prod.mk.inj h2
theorem len_at {s : Rd} {k m : Nat} (h : k + m ≤ s.r.length) : m ≤ (s.at k).r.length := by
  show m ≤ (s.r.drop k).length
  rw [List.length_drop]; omega

def At (W : World) (h : Nat) (a : Option Addr) (len cap : Nat) (zs : List Int) (s : Rd) (k : Nat) (v : Value) (e : Ending) (W' : World) : Prop := e = .returned v ∧ W.grownBy W' (some h) ∧ Rb W' h a len cap zs (s.at k)

section
variable {W : World} {h : Nat} {a : Option Addr} {len cap : Nat} {zs : List Int} {s : Rd} {k : Nat}
theorem nd_num (R : Rb W h a len cap zs (s.at k)) (hl : k + 4 ≤ s.r.length) : Calls Try.prog 48 #[.pointer (some ⟨h, 0, none⟩)] W (At W h a len cap zs s (k + 4) (.int .u32 (n4 s.r k))) := by
  refine (rdnumber_any W h a len cap zs (s.at k) R rfl).mono ?_
  rintro e W' ⟨hg, v, s', haft, hc⟩
  obtain ⟨rfl, rfl⟩ := aft_full (fix_num 4) rfl (len_at hl) haft
  rcases hc with ⟨_, rfl, hR⟩ | ⟨h0, _⟩
  · rw [at_more] at hR
    exact ⟨rfl, hg, hR⟩
  · exact absurd rfl h0
theorem nd_long (R : Rb W h a len cap zs (s.at k)) (hl : k + 8 ≤ s.r.length) : Calls Try.prog 50 #[.pointer (some ⟨h, 0, none⟩)] W (At W h a len cap zs s (k + 8) (.int .u64 (n8 s.r k))) := by
  refine (rdlong_any W h a len cap zs (s.at k) R rfl).mono ?_
  rintro e W' ⟨hg, v, s', haft, hc⟩
  obtain ⟨rfl, rfl⟩ := aft_full (fix_num 8) rfl (len_at hl) haft
  rcases hc with ⟨_, rfl, hR⟩ | ⟨h0, _⟩
  · rw [at_more] at hR
    exact ⟨rfl, hg, hR⟩
  · exact absurd rfl h0
theorem aft_mode {v : Int} {s' : Rd} (he : s.e = 0) (hl : 4 ≤ s.r.length) (h : Aft modeC s v s') : v = be (s.r.take 4) ∧ s' = must (decide (be (s.r.take 4) ≤ 4095)) ⟨s.r.drop 4, s.n + 4, 0⟩ ∨ (decide (be (s.r.take 4) ≤ 4095) = false ∧ s'.e = 5) := by
  have hd := (fix_num 4).all s.r s.n hl
  rw [← Rd.clean s he] at hd
  have hm : modeC.dec s = (((numC 4).dec s).1, must (decide (((numC 4).dec s).1 ≤ 4095)) ((numC 4).dec s).2) := rfl
  rw [hd] at hm
  cases hb : decide (be (s.r.take 4) ≤ 4095) with
  | true =>
    simp only [hb] at hm
    have h1 := h.e
    rw [hm, must_yes] at h1
    have h2 := h.eq h1
    rw [hm, must_yes] at h2
    obtain ⟨rfl, rfl⟩ := Prod.mk.inj h2
    exact .inl ⟨rfl, (must_yes _).symm⟩
  | false =>
    simp only [hb] at hm
    have h1 := h.e
    rw [hm] at h1
    exact .inr ⟨rfl, h1⟩
theorem nd_mode (R : Rb W h a len cap zs (s.at k)) (hl : k + 4 ≤ s.r.length) : Calls Try.prog 49 #[.pointer (some ⟨h, 0, none⟩)] W fun e W' =>
    (decide (n4 s.r k ≤ 4095) = true ∧ At W h a len cap zs s (k + 4) (.int .u32 (n4 s.r k)) e W') ∨ (decide (n4 s.r k ≤ 4095) = false ∧ e = .panicked (bad 5) ∧ W.grownBy W' (some h)) := by
  refine (rdmode_any W h a len cap zs (s.at k) R rfl).mono ?_
  rintro e W' ⟨hg, v, s', haft, hc⟩
  have hk : be ((s.at k).r.take 4) = n4 s.r k := rfl
  have hm := aft_mode rfl (len_at hl) haft
  rw [hk] at hm
  rcases hm with ⟨rfl, rfl⟩ | ⟨h1, h5⟩
  · cases hb : decide (n4 s.r k ≤ 4095) with
    | true =>
      rw [hb, must_yes] at hc
      rcases hc with ⟨_, rfl, hR⟩ | ⟨h0, _⟩
      · rw [at_more] at hR
        exact .inl ⟨rfl, rfl, hg, hR⟩
      · exact absurd rfl h0
    | false =>
      rw [hb, must_no rfl] at hc
      rcases hc with ⟨h0, _⟩ | ⟨_, rfl⟩
      · cases h0
      · exact .inr ⟨rfl, rfl, hg⟩
  · rcases hc with ⟨h0, _⟩ | ⟨_, rfl⟩
    · omega
    · rw [h5]
      exact .inr ⟨h1, rfl, hg⟩
theorem tim_full {v : Int × Int} {s' : Rd} (he : s.e = 0) (hl : 8 ≤ s.r.length) (h : Aft timC s v s') : (tok (be ((s.r.drop 4).take 4)) = true ∧ v = (be (s.r.take 4), be ((s.r.drop 4).take 4)) ∧ s' = ⟨s.r.drop 8, s.n + 8, 0⟩) ∨ (tok (be ((s.r.drop 4).take 4)) = false ∧ s'.e = 5) := by
  have hd := (fix_seq (fix_num 4) (fix_num 4)).all s.r s.n hl
  rw [← Rd.clean s he] at hd
  have hm : timC.dec s = ((((numC 4).seq (numC 4)).dec s).1, must (tok (((numC 4).seq (numC 4)).dec s).1.2) (((numC 4).seq (numC 4)).dec s).2) := rfl
  rw [hd] at hm
  cases hb : tok (be ((s.r.drop 4).take 4)) with
  | true =>
    simp only [hb] at hm
    have h1 := h.e
    rw [hm, must_yes] at h1
    have h2 := h.eq h1
    rw [hm, must_yes] at h2
    obtain ⟨rfl, rfl⟩ := Prod.mk.inj h2
    exact .inl ⟨rfl, rfl, rfl⟩
  | false =>
    simp only [hb] at hm
    have h1 := h.e
    rw [hm] at h1
    exact .inr ⟨rfl, h1⟩
theorem n4_drop (r : List Int) (k : Nat) : be (((r.drop k).drop 4).take 4) = n4 r (k + 4) := by unfold n4; rw [List.drop_drop]
theorem nd_mom (R : Rb W h a len cap zs (s.at k)) (hl : k + 8 ≤ s.r.length) : Calls Try.prog 51 #[.pointer (some ⟨h, 0, none⟩)] W fun e W' =>
    (tok (n4 s.r (k + 4)) = true ∧ At W h a len cap zs s (k + 8) (.agg #[.int .u32 (n4 s.r k), .int .u32 (n4 s.r (k + 4))]) e W') ∨ (tok (n4 s.r (k + 4)) = false ∧ e = .panicked (bad 5) ∧ W.grownBy W' (some h)) := by
  refine (rdmoment_any W h a len cap zs (s.at k) R rfl).mono ?_
  rintro e W' ⟨hg, v, s', haft, hc⟩
  have hk : be (((s.at k).r.drop 4).take 4) = n4 s.r (k + 4) := n4_drop s.r k
  have hm := tim_full rfl (len_at hl) haft
  rw [hk] at hm
  rcases hm with ⟨h1, rfl, rfl⟩ | ⟨h1, h5⟩
  · rcases hc with ⟨_, rfl, hR⟩ | ⟨h0, _⟩
    · rw [at_more] at hR
      exact .inl ⟨h1, rfl, hg, hR⟩
    · exact absurd rfl h0
  · rcases hc with ⟨h0, _⟩ | ⟨_, rfl⟩
    · omega
    · rw [h5]
      exact .inr ⟨h1, rfl, hg⟩
end

theorem n8_half {r : List Int} (hb : Byt r) {k : Nat} (hl : k + 8 ≤ r.length) : (n8 r k == 0) = ((n4 r k == 0) && (n4 r (k + 4) == 0)) := by
  have hs : (r.drop k).take 8 = (r.drop k).take 4 ++ (r.drop (k + 4)).take 4 := by
    rw [← List.drop_drop, show (8 : Nat) = 4 + 4 from rfl, List.take_add]
  have hl2 : ((r.drop (k + 4)).take 4).length = 4 := by simp; omega
  have h8 : n8 r k = n4 r k * 256 ^ 4 + n4 r (k + 4) := by
    unfold n8 n4
    rw [hs, be_append, hl2]
  have p1 := (num_lt (byt_tail hb k)).1
  have p2 := (num_lt (byt_tail hb (k + 4))).1
  have e4 : (256 : Int) ^ 4 = 4294967296 := by decide
  rw [e4] at h8
  have p1' : 0 ≤ n4 r k := p1
  have p2' : 0 ≤ n4 r (k + 4) := p2
  rw [Bool.eq_iff_iff]
  simp only [Bool.and_eq_true, beq_iff_eq]
  omega
end Go.Proofs.Ytecbhhfncklefac
