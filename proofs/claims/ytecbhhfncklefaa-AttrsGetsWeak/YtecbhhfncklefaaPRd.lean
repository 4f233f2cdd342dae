/- The reader of the program: its box, and what of the bytes is left; nothing is claimed of the program here. -/
import Derived.Test.YtecbhhfncklefaaAft
import Derived.Test.YtecbhhfncklefaaCuts
import Derived.Test.YtecbhhfncklefaaPNeed
import Derived.Test.YtecbhhfncklefaaGrownCell
import Derived.Test.YtecbhhfncklefaaRead4
import Derived.Test.YtecbhhfncklefaaRead
import Derived.Test.YtecbhhfncklefaaYes
import Derived.Test.YtecbhhfncklefaaTimeGet
import Derived.Deep.RegionLaw
import Derived.Deep.RegionHeld3
namespace Go.Proofs.Ytecbhhfncklefaa
set_option linter.unusedVariables false
open Go.RowKit

/-- The reader in a block, and the bytes that it goes through. -/
structure Rb (W : World) (h : Nat) (a : Option Addr) (len cap : Nat) (zs : List Int) (s : Rd) : Prop where
  box : W.heap[h]? = some (.cells #[.slice a len cap, .int .i64 (s.n : Int)] 66)
  on : s.On zs
  lc : len ≤ cap
  max : cap ≤ 9223372036854775807
  len : zs.length = len
  byt : Byt zs
  seg : Seg W a zs

theorem Rb.lt {W : World} {h : Nat} {a : Option Addr} {len cap : Nat} {zs : List Int} {s : Rd} (t : Rb W h a len cap zs s) : h < W.heap.size := (Array.getElem?_eq_some_iff.1 t.box).1
theorem Rb.next {W W' : World} {h : Nat} {a : Option Addr} {len cap : Nat} {zs : List Int} {s : Rd} (t : Rb W h a len cap zs s) (hb : Below W.heap.size W W') : Rb W' h a len cap zs s :=
  ⟨(hb.block _ t.lt).trans t.box, t.on, t.lc, t.max, t.len, t.byt, t.seg.below hb⟩
theorem Rb.c {W : World} {h : Nat} {a : Option Addr} {len cap : Nat} {zs : List Int} {s : Rd} (t : Rb W h a len cap zs s) : W.cell? ⟨h, 0, none⟩ = some (.slice a len cap) ∧ W.cell? ⟨h, 1, none⟩ = some (.int .i64 (s.n : Int)) := by
  have t' := t.box
  refine ⟨?_, ?_⟩ <;> simp [World.cell?, t']
theorem Rb.f {W : World} {h : Nat} {a : Option Addr} {len cap : Nat} {zs : List Int} {s : Rd} (t : Rb W h a len cap zs s) : W.frozen? ⟨h, 1, none⟩ = false := by
  have t' := t.box
  simp [World.frozen?, t']
/-- The bytes lie in another block than the reader. -/
theorem seg_far {W W' : World} {h : Nat} {a : Option Addr} {zs : List Int} {x y : Value} {t : TypeId} (hs : Seg W a zs) (hb : W.heap[h]? = some (.cells #[x, y] t)) (hx : ∀ n, x ≠ .int .u8 n) (hy : ∀ n, y ≠ .int .u8 n) (hg : W.grownBy W' (some h)) : Seg W' a zs := by
  rcases hs with hs | ⟨b, off, e, hc⟩
  · exact .inl hs
  · refine .inr ⟨b, off, e, fun i hi => ?_⟩
    have h1 := hc i hi
    have hne : b ≠ h := by
      rintro rfl
      simp only [World.cell?, hb] at h1
      rcases Nat.lt_or_ge (off + i) 2 with h2 | h2
      · rcases (show off + i = 0 ∨ off + i = 1 by omega) with h3 | h3
        · rw [h3] at h1; exact hx _ (by simpa using h1)
        · rw [h3] at h1; exact hy _ (by simpa using h1)
      · rw [Array.getElem?_eq_none (by simpa using h2)] at h1
        simp at h1
    have hl := World.block_lt_of_cell? _ _ h1
    have hk := hg.block b hl (fun e => hne (Option.some.inj e))
    simp only [World.cell?] at h1 ⊢
    rw [hk]
    exact h1
theorem Rb.seg_kept {W W' : World} {h : Nat} {a : Option Addr} {len cap : Nat} {zs : List Int} {s : Rd} (t : Rb W h a len cap zs s) (hg : W.grownBy W' (some h)) : Seg W' a zs :=
  seg_far t.seg t.box (fun n e => by cases e) (fun n e => by cases e) hg
/-- Another block turns. -/
theorem Rb.other {W W' : World} {h g : Nat} {a : Option Addr} {len cap : Nat} {zs : List Int} {s : Rd} (t : Rb W h a len cap zs s) (hg : W.grownBy W' (some g)) (hne : g ≠ h) (hs : Seg W' a zs) : Rb W' h a len cap zs s :=
  ⟨(hg.block h t.lt (fun e => hne (Option.some.inj e).symm)).trans t.box, t.on, t.lc, t.max, t.len, t.byt, hs⟩
/-- It goes on. -/
theorem Rb.step {W : World} {h : Nat} {a : Option Addr} {len cap : Nat} {zs : List Int} {s : Rd} (t : Rb W h a len cap zs s) (s' : Rd) (ho : s'.On zs) : Rb (W.setCell ⟨h, 1, none⟩ (.int .i64 (s'.n : Int))) h a len cap zs s' :=
  ⟨setCell_same (k := 1) t.box _, ho, t.lc, t.max, t.len, t.byt, t.seg_kept (grown_cell _ _ _ _)⟩

/-- What a reading function answers: a value, and the reader has gone on; or it leaves off. -/
def Got {α : Type} (c : Codec α) (val : α → Value) (W : World) (h : Nat) (a : Option Addr) (len cap : Nat) (zs : List Int) (s : Rd) (e : Ending) (W' : World) : Prop :=
  W.grownBy W' (some h) ∧ ∃ v s', Aft c s v s' ∧ ((s'.e = 0 ∧ e = .returned (val v) ∧ Rb W' h a len cap zs s') ∨ (s'.e ≠ 0 ∧ e = .panicked (bad s'.e)))
def Reads {α : Type} (F : FuncId) (c : Codec α) (val : α → Value) : Prop :=
  ∀ (W : World) (h : Nat) (a : Option Addr) (len cap : Nat) (zs : List Int) (s : Rd), Rb W h a len cap zs s → s.e = 0 → Calls Try.prog F #[.pointer (some ⟨h, 0, none⟩)] W (Got c val W h a len cap zs s)
end Go.Proofs.Ytecbhhfncklefaa
