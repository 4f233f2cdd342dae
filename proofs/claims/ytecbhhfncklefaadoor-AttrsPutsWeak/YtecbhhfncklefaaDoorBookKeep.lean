/- 'keepByte' and 'Bytes' of a Book: the list is held, with its number; nothing else turns but the Book and its row. -/
import Derived.Test.YtecbhhfncklefaaDoorBookMark
import Derived.Deep.AppendLies
import Derived.Deep.RegionLaw
import Derived.Outline
namespace Go.Proofs.YtecbhhfncklefaaDoor
set_option linter.unusedVariables false
open Go.RowKit

theorem infoHeld : (Tryd.prog.info? 91).map (fun i => (i.zero, i.size, i.bytes)) = some (some (.agg #[.slice none 0 0, .slice none 0 0, .int .i64 0]), 3, 56) := by kernel_rfl

theorem keep_step {r : Nat → Value} {W1 w2 : World} {B : Nat} {m : Int} {vb : Value} {o : Obj} (b1 : BookAt W1 B m vb r) (hsep : vb.ownBlock ≠ some B) (hgrow : (W1.alloc o).drew.grownBy w2 vb.ownBlock) :
    BookAt w2 B m vb r ∧ w2.cell? ⟨B, 1, none⟩ = some vb ∧ w2.frozen? ⟨B, 1, none⟩ = false ∧ Kept (fun k => k = B ∨ vb.ownBlock = some k) W1 w2 := by
  have hk : Kept (fun k => k = B ∨ vb.ownBlock = some k) W1 w2 := ((Kept.refl _ W1).alloc o).drew.grown hgrow (fun k e => .inl (.inr e))
  have hb2 : BookAt w2 B m vb r := (hgrow.block B (by have := b1.lt; simp; omega) (fun e => hsep e.symm)).trans ((Below.heap_alloc _ _ _ b1.lt).trans b1)
  exact ⟨hb2, hb2.cell1, hb2.frozen 1, hk⟩

theorem keep_end {r : Nat → Value} {W W1 w2 : World} {B : Nat} {m : Int} {vb u : Value} {base n : Nat} {hs : List (Value × Value × Int)} {h : Value × Value × Int} (hb2 : BookAt w2 B m vb r) (hk1 : Kept (fun k => k = B ∨ vb.ownBlock = some k) W W1)
    (hk2 : Kept (fun k => k = B ∨ vb.ownBlock = some k) W1 w2) (hown2 : w2.ownsRow base 91 3 u n (flat3 hs ++ [h.1, h.2.1, .int .i64 h.2.2])) :
    ∃ vb', BookAt (w2.setCell ⟨B, 1, none⟩ u) B m vb' r ∧ (w2.setCell ⟨B, 1, none⟩ u).ownsRow base 91 3 vb' n (flat3 (hs ++ [h])) ∧ Kept (fun k => k = B ∨ vb.ownBlock = some k) W (w2.setCell ⟨B, 1, none⟩ u) := by
  refine ⟨u, hb2.set1 u, ?_, (hk1.trans hk2).setCell (p := ⟨B, 1, none⟩) (.inl (.inl rfl)) _⟩
  have hsep := own_not hown2 hb2 (by decide)
  rw [flat3_append]
  exact own_kept (D := fun k => k = B) hown2 ((Kept.refl (fun k => k = B) w2).setCell (p := ⟨B, 1, none⟩) (.inl rfl) _) (fun g hg e => hsep (by rw [hg, e]))

set_option maxRecDepth 100000 in
set_option maxHeartbeats 1000000 in
theorem keep_any {r : Nat → Value} (B : Nat) (n : Int) (vb : Value) (hs : List (Value × Value × Int)) (base : Nat) (a : Option Addr) (len cap : Nat) (W : World) (hb : BookAt W B n vb r)
    (hown : W.ownsRow base 91 3 vb hs.length (flat3 hs)) (hbase : base ≤ W.heap.size) (hn0 : 0 ≤ n) (hn1 : n ≤ 1000000) (hl : hs.length ≤ 1000000) :
    Calls Tryd.prog 40 #[.pointer (some ⟨B, 0, none⟩), .slice a len cap] W fun e W' => e = .returned (.tuple #[]) ∧
      ∃ vb', BookAt W' B (n + 1) vb' r ∧ W'.ownsRow base 91 3 vb' (hs.length + 1) (flat3 (hs ++ [(.slice a len cap, .slice none 0 0, n + 1)])) ∧
        Kept (fun k => k = B ∨ vb.ownBlock = some k) W W' := by
  obtain ⟨i0, hi, hz0, hz1, hz2⟩ := info_parts infoHeld
  have c0 := hb.cell0
  have f0 := hb.frozen 0
  have b1 := hb.set0 (n + 1)
  have hsep := own_not hown hb (by decide)
  have hown1 : (W.setCell ⟨B, 0, none⟩ (.int .i64 (n + 1))).ownsRow base 91 3 vb hs.length (flat3 hs) :=
    own_kept (D := fun k => k = B) hown ((Kept.refl (fun k => k = B) W).setCell (p := ⟨B, 0, none⟩) (.inl rfl) _) (fun g hg e => hsep (by rw [hg, e]))
  have hk1 : Kept (fun k => k = B ∨ vb.ownBlock = some k) W (W.setCell ⟨B, 0, none⟩ (.int .i64 (n + 1))) := (Kept.refl (fun k => k = B ∨ vb.ownBlock = some k) W).setCell (p := ⟨B, 0, none⟩) (.inl (.inl rfl)) _
  go_enter Tryd.func40, Tryd.ntmps40
  go_wp2
  generalize hW1 : W.setCell ⟨B, 0, none⟩ (.int .i64 (n + 1)) = W1 at *
  have c10 := b1.cell0
  have c11 := b1.cell1
  have hsz1 : base ≤ W1.heap.size := by rw [← hW1]; simpa [World.setCell] using hbase
  clear hW1 c0 f0 hown
  have hlB := b1.lt
  have ca1 : ∀ o, (W1.alloc o).cell? ⟨B, 1, none⟩ = some vb := fun o => (World.cell?_of_block (w := W1) (a := ⟨B, 1, none⟩) (Below.heap_alloc W1 o B hlB)).trans c11
  have ca0 : ∀ o, (W1.alloc o).cell? ⟨B, 0, none⟩ = some (.int .i64 (n + 1)) := fun o => (World.cell?_of_block (w := W1) (a := ⟨B, 0, none⟩) (Below.heap_alloc W1 o B hlB)).trans c10
  go_region_law (refine step_append_lies _ (by rfl) _ _ _ (by rfl) base 91 i0 (.agg #[.slice none 0 0, .slice none 0 0, .int .i64 0]) 3 56 Tryd.underlying49 hi hz0 hz1 hz2 rfl (by decide) vb hs.length (flat3 hs) (by rfl) (hown1.drew.alloc _) ⟨W1.heap.size, 0, none⟩ 1 1 [.slice a len cap, .slice none 0 0, .int .i64 (n + 1)] (by rfl) rfl (World.news_of_block (fr := (0, 0)) (heap_alloc_new W1 _)) (by simp [Value.oneCell']) (by omega) (by unfold maxLen; omega) (by omega) (by simp; omega) (W1.heap.size + 1) (by simp) ?_; intro g cap' w2 hown2 hgrow2 hat2 hlt2; obtain ⟨hb2, hc2, hf2, hk2⟩ := keep_step b1 hsep hgrow2)
  all_goals go_end0
  all_goals exact ⟨rfl, keep_end (h := (.slice a len cap, .slice none 0 0, n + 1)) hb2 hk1 hk2 hown2⟩

set_option maxHeartbeats 400000 in
theorem bytes_any {r : Nat → Value} (B : Nat) (n : Int) (vb : Value) (hs : List (Value × Value × Int)) (base : Nat) (a : Option Addr) (len cap : Nat) (W : World) (hb : BookAt W B n vb r)
    (hown : W.ownsRow base 91 3 vb hs.length (flat3 hs)) (hbase : base ≤ W.heap.size) (hn0 : 0 ≤ n) (hn1 : n ≤ 1000000) (hl : hs.length ≤ 1000000) :
    Calls Tryd.prog 17 #[.pointer (some ⟨B, 0, none⟩), .slice a len cap] W fun e W' => e = .returned (.tuple #[]) ∧
      ∃ vb', BookAt W' B (n + 1) vb' r ∧ W'.ownsRow base 91 3 vb' (hs.length + 1) (flat3 (hs ++ [(.slice a len cap, .slice none 0 0, n + 1)])) ∧
        Kept (fun k => k = B ∨ vb.ownBlock = some k) W W' := by
  go_enter Tryd.func17, Tryd.ntmps17
  go_wp2_with fail
  refine (keep_any B n vb hs base a len cap W hb hown hbase hn0 hn1 hl).mono ?_
  rintro e w' ⟨rfl, h⟩
  go_wp2
  go_end0
  exact ⟨rfl, h⟩
end Go.Proofs.YtecbhhfncklefaaDoor
