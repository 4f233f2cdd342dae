/- What is to be set, and what was told ahead and behind: which may be, and how many bytes they have; plain mathematics. -/
import Derived.Test.YtecbhhfncklefaaDoorAttrMath
namespace Go.Proofs.YtecbhhfncklefaaDoor
set_option linter.unusedVariables false

def yB (b : Bool) : List Int := bytesOf (if b then 1 else 0) 4
theorem yB_length (b : Bool) : (yB b).length = 4 := bytesOf_length _ _
theorem attr_zero : attrC.zero = zeroA := rfl
theorem set_zero : setC.zero = zeroS := rfl
theorem weak_zero : weakC.zero = zeroW := rfl

theorem p4 : (256 : Int) ^ 4 = 4294967296 := by decide
theorem p8 : (256 : Int) ^ 8 = 18446744073709551616 := by decide
theorem num4_ok {x : Int} : (numC 4).ok x ↔ 0 ≤ x ∧ x ≤ 4294967295 := by
  show 0 ≤ x ∧ x < 256 ^ 4 ↔ _
  rw [p4]; omega
theorem num8_ok {x : Int} : (numC 8).ok x ↔ 0 ≤ x ∧ x ≤ 18446744073709551615 := by
  show 0 ≤ x ∧ x < 256 ^ 8 ↔ _
  rw [p8]; omega
theorem yes_ok (b : Bool) : yesC.ok b := ⟨num4_ok.2 (by cases b <;> simp), by cases b <;> rfl⟩
theorem tim_ok {t : Int × Int} : timC.ok t ↔ (0 ≤ t.1 ∧ t.1 ≤ 4294967295) ∧ (0 ≤ t.2 ∧ t.2 ≤ 4294967295) ∧ tok t.2 = true := by
  show ((numC 4).ok t.1 ∧ (numC 4).ok t.2) ∧ tok t.2 = true ↔ _
  rw [num4_ok, num4_ok, and_assoc]
theorem opt_ok {α : Type} {d : Codec α} {x : Bool × α} : (optC d).ok x ↔ (if x.1 then d.ok x.2 else x.2 = d.zero) := by
  show yesC.ok x.1 ∧ (if id x.1 = true then d.ok x.2 else x.2 = d.zero) ↔ _
  exact ⟨fun h => h.2, fun h => ⟨yes_ok _, h⟩⟩
theorem how_ok {x : Int × Int × Int} : howC.ok x ↔ (0 ≤ x.1 ∧ x.1 ≤ 2) ∧ (if x.1 == 2 then timC.ok x.2 else x.2 = (0, 0)) := by
  show (((numC 4).ok x.1 ∧ decide (x.1 ≤ 2) = true) ∧ (if (x.1 == 2) = true then timC.ok x.2 else x.2 = timC.zero)) ↔ _
  rw [num4_ok, decide_eq_true_iff]
  constructor
  · rintro ⟨h, k⟩; exact ⟨by omega, k⟩
  · rintro ⟨h, k⟩; exact ⟨by omega, k⟩

theorem set_ok_iff {s : Stt} : setC.ok s ↔ (if s.hm then (0 ≤ s.mode ∧ s.mode ≤ 4294967295) ∧ s.mode ≤ 4095 else s.mode = 0) ∧ (if s.hu then 0 ≤ s.user ∧ s.user ≤ 4294967295 else s.user = 0) ∧ (if s.hg then 0 ≤ s.group ∧ s.group ≤ 4294967295 else s.group = 0) ∧
    (if s.hs then 0 ≤ s.size ∧ s.size ≤ 18446744073709551615 else s.size = 0) ∧ ((0 ≤ s.rh ∧ s.rh ≤ 2) ∧ (if s.rh == 2 then timC.ok (s.rs, s.rn) else (s.rs, s.rn) = (0, 0))) ∧ ((0 ≤ s.wh ∧ s.wh ≤ 2) ∧ (if s.wh == 2 then timC.ok (s.ws, s.wn) else (s.ws, s.wn) = (0, 0))) := by
  show ((optC modeC).ok (s.hm, s.mode) ∧ (optC (numC 4)).ok (s.hu, s.user) ∧ (optC (numC 4)).ok (s.hg, s.group) ∧ (optC (numC 8)).ok (s.hs, s.size) ∧ howC.ok (s.rh, s.rs, s.rn) ∧ howC.ok (s.wh, s.ws, s.wn)) ↔ _
  rw [opt_ok, opt_ok, opt_ok, opt_ok, how_ok, how_ok]
  have hm : modeC.ok s.mode ↔ (0 ≤ s.mode ∧ s.mode ≤ 4294967295) ∧ s.mode ≤ 4095 := by
    show (numC 4).ok s.mode ∧ decide (s.mode ≤ 4095) = true ↔ _
    rw [num4_ok, decide_eq_true_iff]
  simp only [hm, num4_ok, num8_ok]
  exact Iff.rfl

theorem set_ok {s : Stt} (h : s.In) (hm : smay s = true) : setC.ok s := by
  obtain ⟨h1, h2, h3, h4, h5, h6, h7, h8, h9, h10⟩ := h
  simp only [smay, Bool.and_eq_true, Bool.or_eq_true, beq_iff_eq, decide_eq_true_eq] at hm
  obtain ⟨⟨⟨⟨⟨⟨⟨⟨⟨⟨m1, m2⟩, m3⟩, m4⟩, m5⟩, m6⟩, m7⟩, m8⟩, m9⟩, m10⟩, m11⟩ := hm
  rw [set_ok_iff]
  refine ⟨?_, ?_, ?_, ?_, ⟨by omega, ?_⟩, ⟨by omega, ?_⟩⟩
  · split
    · exact ⟨h1, m1⟩
    · rename_i h; simpa [h] using m2
  · split
    · exact h2
    · rename_i h; simpa [h] using m3
  · split
    · exact h3
    · rename_i h; simpa [h] using m4
  · split
    · exact h4
    · rename_i h; simpa [h] using m5
  · split
    · exact tim_ok.2 ⟨h6, h7, m10⟩
    · rename_i h
      rcases m8 with m8 | m8
      · exact absurd (by rw [m8]; rfl) h
      · rw [m8.1, m8.2]
  · split
    · exact tim_ok.2 ⟨h9, h10, m11⟩
    · rename_i h
      rcases m9 with m9 | m9
      · exact absurd (by rw [m9]; rfl) h
      · rw [m9.1, m9.2]

theorem how_facts {h a b : Int} (k : if h == 2 then timC.ok (a, b) else (a, b) = ((0 : Int), (0 : Int))) : (0 ≤ a ∧ a ≤ 4294967295) ∧ (0 ≤ b ∧ b ≤ 4294967295) ∧ tok b = true ∧ (h = 2 ∨ (a = 0 ∧ b = 0)) := by
  split at k
  · rename_i e
    have := tim_ok.1 k
    exact ⟨this.1, this.2.1, this.2.2, .inl (by simpa using e)⟩
  · obtain ⟨rfl, rfl⟩ := Prod.mk.inj k
    exact ⟨by omega, by omega, rfl, .inr ⟨rfl, rfl⟩⟩
theorem set_facts {s : Stt} (h : setC.ok s) : s.In ∧ smay s = true := by
  rw [set_ok_iff] at h
  obtain ⟨h1, h2, h3, h4, ⟨h5, h6⟩, ⟨h7, h8⟩⟩ := h
  obtain ⟨a1, a2, a3, a4⟩ := how_facts h6
  obtain ⟨b1, b2, b3, b4⟩ := how_facts h8
  have e1 : (0 ≤ s.mode ∧ s.mode ≤ 4095) ∧ (s.hm = true ∨ s.mode = 0) := by
    split at h1
    · rename_i h; exact ⟨by omega, .inl h⟩
    · exact ⟨by omega, .inr h1⟩
  have e2 : (0 ≤ s.user ∧ s.user ≤ 4294967295) ∧ (s.hu = true ∨ s.user = 0) := by
    split at h2
    · rename_i h; exact ⟨h2, .inl h⟩
    · exact ⟨by omega, .inr h2⟩
  have e3 : (0 ≤ s.group ∧ s.group ≤ 4294967295) ∧ (s.hg = true ∨ s.group = 0) := by
    split at h3
    · rename_i h; exact ⟨h3, .inl h⟩
    · exact ⟨by omega, .inr h3⟩
  have e4 : (0 ≤ s.size ∧ s.size ≤ 18446744073709551615) ∧ (s.hs = true ∨ s.size = 0) := by
    split at h4
    · rename_i h; exact ⟨h4, .inl h⟩
    · exact ⟨by omega, .inr h4⟩
  refine ⟨⟨by omega, e2.1, e3.1, e4.1, by omega, a1, a2, by omega, b1, b2⟩, ?_⟩
  simp only [smay, Bool.and_eq_true, Bool.or_eq_true, beq_iff_eq, decide_eq_true_eq]
  exact ⟨⟨⟨⟨⟨⟨⟨⟨⟨⟨e1.1.2, e1.2⟩, e2.2⟩, e3.2⟩, e4.2⟩, h5.2⟩, h7.2⟩, a4⟩, b4⟩, a3⟩, b3⟩

theorem sB_eq (s : Stt) : sB s = (yB s.hm ++ if s.hm then bytesOf s.mode 4 else []) ++ ((yB s.hu ++ if s.hu then bytesOf s.user 4 else []) ++ ((yB s.hg ++ if s.hg then bytesOf s.group 4 else []) ++ ((yB s.hs ++ if s.hs then bytesOf s.size 8 else []) ++
    ((bytesOf s.rh 4 ++ if s.rh == 2 then tB s.rs s.rn else []) ++ (bytesOf s.wh 4 ++ if s.wh == 2 then tB s.ws s.wn else []))))) := rfl
theorem byt_sB (s : Stt) : Byt (sB s) := setC.byt s
theorem sB_length (s : Stt) : (sB s).length = 24 + (if s.hm then 4 else 0) + (if s.hu then 4 else 0) + (if s.hg then 4 else 0) + (if s.hs then 8 else 0) + (if s.rh == 2 then 8 else 0) + (if s.wh == 2 then 8 else 0) := by
  have k : ∀ (b : Bool) (x : Int) (n : Nat), (if b then bytesOf x n else []).length = if b then n else 0 := fun b x n => by cases b <;> simp [bytesOf_length]
  have t : ∀ (b : Bool) (x y : Int), (if b then tB x y else []).length = if b then 8 else 0 := fun b x y => by cases b <;> simp [tB_length]
  rw [sB_eq]
  simp only [List.length_append, yB_length, bytesOf_length, k, t]
  omega
theorem sB_le (s : Stt) : 24 ≤ (sB s).length ∧ (sB s).length ≤ 60 ∧ (sB s).length % 4 = 0 := by
  rw [sB_length]
  cases s.hm <;> cases s.hu <;> cases s.hg <;> cases s.hs <;> cases (s.rh == 2) <;> cases (s.wh == 2) <;> simp

theorem weak_ok_iff {w : Wk} : weakC.ok w ↔ (if w.hb then (0 ≤ w.size ∧ w.size ≤ 18446744073709551615) ∧ timC.ok (w.ws, w.wn) ∧ timC.ok (w.ts, w.tn) else (w.size, (w.ws, w.wn), (w.ts, w.tn)) = ((0 : Int), ((0 : Int), (0 : Int)), ((0 : Int), (0 : Int)))) ∧ (if w.ha then attrC.ok w.af else w.af = zeroA) := by
  show ((optC befC).ok (w.hb, w.size, (w.ws, w.wn), (w.ts, w.tn)) ∧ (optC attrC).ok (w.ha, w.af)) ↔ _
  rw [opt_ok, opt_ok]
  have hm : befC.ok (w.size, (w.ws, w.wn), (w.ts, w.tn)) ↔ (0 ≤ w.size ∧ w.size ≤ 18446744073709551615) ∧ timC.ok (w.ws, w.wn) ∧ timC.ok (w.ts, w.tn) := by
    show ((numC 8).ok w.size ∧ timC.ok (w.ws, w.wn) ∧ timC.ok (w.ts, w.tn)) ↔ _
    rw [num8_ok]
  simp only [hm]
  exact Iff.rfl

theorem weak_ok {w : Wk} (h : w.In) (hm : wmay w = true) : weakC.ok w := by
  obtain ⟨h1, h2, h3, h4, h5, h6⟩ := h
  simp only [wmay, Bool.and_eq_true, Bool.or_eq_true, beq_iff_eq] at hm
  obtain ⟨⟨⟨m1, m2⟩, m3⟩, m4⟩ := hm
  rw [weak_ok_iff]
  refine ⟨?_, ?_⟩
  · split
    · exact ⟨h1, tim_ok.2 ⟨h2, h3, m3⟩, tim_ok.2 ⟨h4, h5, m4⟩⟩
    · rename_i h
      rcases m1 with m1 | ⟨⟨m, n, o⟩, p, q⟩
      · exact absurd m1 h
      · rw [m, n, o, p, q]
  · split
    · rename_i h
      exact attr_ok h6 (by simpa [h] using m2)
    · rename_i h
      have : az w.af = true := by simpa [h] using m2
      exact az_iff.1 this

theorem zeroA_in : zeroA.In := by constructor <;> decide
theorem weak_facts {w : Wk} (h : weakC.ok w) : w.In ∧ wmay w = true := by
  rw [weak_ok_iff] at h
  obtain ⟨h1, h2⟩ := h
  have e1 : ((0 ≤ w.size ∧ w.size ≤ 18446744073709551615) ∧ (0 ≤ w.ws ∧ w.ws ≤ 4294967295) ∧ (0 ≤ w.wn ∧ w.wn ≤ 4294967295) ∧ (0 ≤ w.ts ∧ w.ts ≤ 4294967295) ∧ (0 ≤ w.tn ∧ w.tn ≤ 4294967295)) ∧ tok w.wn = true ∧ tok w.tn = true ∧ (w.hb = true ∨ (w.size = 0 ∧ (w.ws = 0 ∧ w.wn = 0) ∧ (w.ts = 0 ∧ w.tn = 0))) := by
    split at h1
    · rename_i h
      have a := tim_ok.1 h1.2.1
      have b := tim_ok.1 h1.2.2
      exact ⟨⟨h1.1, a.1, a.2.1, b.1, b.2.1⟩, a.2.2, b.2.2, .inl h⟩
    · obtain ⟨e1, e2⟩ := Prod.mk.inj h1
      obtain ⟨e3, e4⟩ := Prod.mk.inj e2
      obtain ⟨e5, e6⟩ := Prod.mk.inj e3
      obtain ⟨e7, e8⟩ := Prod.mk.inj e4
      rw [e1, e5, e6, e7, e8]
      exact ⟨by omega, rfl, rfl, .inr ⟨rfl, ⟨rfl, rfl⟩, rfl, rfl⟩⟩
  have e2 : w.af.In ∧ (if w.ha then amay w.af else az w.af) = true := by
    split at h2
    · rename_i h
      exact ⟨attr_in h2, by simpa [h] using attr_may h2⟩
    · rename_i h
      exact ⟨by rw [h2]; exact zeroA_in, by simpa [h] using az_iff.2 h2⟩
  refine ⟨⟨e1.1.1, e1.1.2.1, e1.1.2.2.1, e1.1.2.2.2.1, e1.1.2.2.2.2, e2.1⟩, ?_⟩
  simp only [wmay, Bool.and_eq_true, Bool.or_eq_true, beq_iff_eq]
  exact ⟨⟨⟨by rcases e1.2.2.2 with h | ⟨a, b, c⟩; exact .inl h; exact .inr ⟨⟨a, b⟩, c⟩, e2.2⟩, e1.2.1⟩, e1.2.2.1⟩

theorem wB_eq (w : Wk) : wB w = (yB w.hb ++ if w.hb then bytesOf w.size 8 ++ (tB w.ws w.wn ++ tB w.ts w.tn) else []) ++ (yB w.ha ++ if w.ha then aB w.af else []) := rfl
theorem byt_wB (w : Wk) : Byt (wB w) := weakC.byt w
theorem wB_length (w : Wk) : (wB w).length = 8 + (if w.hb then 24 else 0) + (if w.ha then 84 else 0) := by
  rw [wB_eq]
  cases w.hb <;> cases w.ha <;> simp [yB_length, bytesOf_length, tB_length, aB_length]

theorem wB_bnd (w : Wk) : 8 ≤ (wB w).length ∧ (wB w).length ≤ 116 ∧ (wB w).length % 4 = 0 := by
  rw [wB_length]
  cases w.hb <;> cases w.ha <;> simp

/-- What 'Put' answers. -/
def paE (m : Bool) : Int := if m then 0 else 1
def paZ (m : Bool) (zs : List Int) : List Int := if m then zs else []
theorem pa_yes (zs : List Int) : paE true = 0 ∧ paZ true zs = zs := ⟨rfl, rfl⟩
theorem pa_no (zs : List Int) : paE false = 1 ∧ paZ false zs = [] := ⟨rfl, rfl⟩
end Go.Proofs.YtecbhhfncklefaaDoor
