/- The other steps of 'Get' of one who calls: the machine, the room for the Groups, the end. -/
import Derived.Test.YtciinabhelfnoaaGreatDoorCredStepM
import Derived.Test.YtciinabhelfnoaaGreatDoorOpqBytesOpqMathAgainMathM
namespace Go.Proofs.YtciinabhelfnoaaGreatDoor
set_option linter.unusedVariables false
open Go.RowKit

set_option maxHeartbeats 400000 in
theorem machine_any (t : Option Addr) (W : World) : Calls Tryz.prog 80 #[.pointer t] W fun e W' => e = .returned (.func (.func 91) #[] #[.pointer (some ⟨W.heap.size, 0, none⟩)]) ∧ W' = W.alloc (.cells #[.pointer t] 125) := by
  go_enter Tryz.func80, Tryz.ntmps80
  go_wp2
  go_ret
  exact ⟨rfl, rfl⟩

set_option maxHeartbeats 1000000 in
theorem machine1_any (a : Option Addr) (len cap : Nat) (zs : List Int) (P X : Nat) (old : Value) (W : World) (hlc : len ≤ cap) (hm : cap ≤ 9223372036854775807) (hz : zs.length = len) (hb : Byt zs) (hs : Seg W a zs)
    (hP : Boxed W P 125 (.pointer (some ⟨X, 0, none⟩))) (hX : Boxed W X 9 old) :
    Calls Tryz.prog 91 #[.slice a len cap, .pointer (some ⟨P, 0, none⟩)] W fun e W' => e = .returned (.tuple #[.int .i64 (opL zs 255 : Nat), .int .i64 (opE zs 255)]) ∧ ∃ W0, Below W.heap.size W W0 ∧ W' = W0.setCell ⟨X, 0, none⟩ (.string (strOfNums (opZ zs 255))) := by
  go_enter Tryz.func91, Tryz.ntmps91
  go_wp2_with fail
  refine (strget_any a len cap 255 zs W hlc hm hz hb hs (by omega) (by omega)).mono ?_
  rintro e W0 ⟨rfl, hb0⟩
  have hP0 : Boxed W0 P 125 (.pointer (some ⟨X, 0, none⟩)) := (hb0.block P hP.lt).trans hP
  have hX0 : Boxed W0 X 9 old := (hb0.block X hX.lt).trans hX
  have cP := hP0.cell
  have cX := hX0.cell
  have fX := hX0.frozen
  go_wp2
  go_ret2
  exact ⟨rfl, W0, hb0, rfl⟩

def MachStep (x y : GS) : Prop :=
  (x.e ≠ 0 ∧ y = x) ∨ (x.e = 0 ∧ opE x.zs 255 ≠ 0 ∧ y = { x with m := strOfNums (opZ x.zs 255), e := opE x.zs 255 }) ∨
    (x.e = 0 ∧ opE x.zs 255 = 0 ∧ opL x.zs 255 ≤ x.len ∧ ∃ b o', y = { x with m := strOfNums (opZ x.zs 255), a := some ⟨b, o', none⟩, len := x.len - opL x.zs 255, cap := x.cap - opL x.zs 255, zs := x.zs.drop (opL x.zs 255) })

/-- 'read(machineName(..))'. -/
theorem step_machine {w : World} {x : GS} {W : World} (h : Gt w x W) (P : Nat) (hP : Boxed W P 125 (.pointer (some ⟨w.heap.size + 1, 0, none⟩))) (ha : x.e = 0 → ∃ b off, x.a = some ⟨b, off, none⟩) :
    Calls Tryz.prog 89 #[.func (.func 91) #[] #[.pointer (some ⟨P, 0, none⟩)], .pointer (some ⟨w.heap.size + 1 + 1 + 1 + 1 + 1, 0, none⟩), .pointer (some ⟨w.heap.size + 1 + 1 + 1 + 1, 0, none⟩)] W fun e W' =>
      ∃ y, e = .returned (.int .i64 y.e) ∧ Gt w y W' ∧ MachStep x y := by
  by_cases h0 : x.e = 0
  · refine (read_machine (.pointer (some ⟨P, 0, none⟩)) _ _ x.a x.len x.cap W h.lc h.hm h.b4 (by rw [← h0]; exact h.b5) (fun sz er W' => sz = opL x.zs 255 ∧ er = opE x.zs 255 ∧ ∃ W0, Below W.heap.size W W0 ∧ W' = W0.setCell ⟨w.heap.size + 1, 0, none⟩ (.string (strOfNums (opZ x.zs 255)))) ((machine1_any x.a x.len x.cap x.zs P _ _ W h.lc h.hm h.len h.byt h.segW hP h.b1).mono ?_) ?_).mono ?_
    · rintro e W' ⟨rfl, W0, hb, rfl⟩
      exact ⟨_, _, rfl, rfl, rfl, W0, hb, rfl⟩
    · rintro sz er W1 ⟨rfl, rfl, W0, hb, rfl⟩
      have hg := (h.next hb).setM (strOfNums (opZ x.zs 255))
      refine ⟨hg.b4, by have := hg.b5; simp only [h0] at this; exact this, fun he => ⟨?_, ha h0⟩⟩
      have := (op_again h.byt he).2.1
      rwa [h.len] at this
    · rintro e W' ⟨sz, er, W1, ⟨rfl, rfl, W0, hb, rfl⟩, rfl, hh⟩
      have hg := (h.next hb).setM (strOfNums (opZ x.zs 255))
      rcases hh with ⟨hne, rfl⟩ | ⟨he, b, off, o', hab, ho, rfl⟩
      · exact ⟨{ x with m := strOfNums (opZ x.zs 255), e := opE x.zs 255 }, rfl, hg.setE _, .inr (.inl ⟨h0, hne, rfl⟩)⟩
      · have hl := (op_again h.byt he).2.1
        rw [h.len] at hl
        have hg2 := hg.adv b off o' (opL x.zs 255) hab ho hl
        exact ⟨_, by rw [he]; simp only; rw [h0], hg2, .inr (.inr ⟨h0, he, hl, b, o', rfl⟩)⟩
  · refine (kept_machine (.pointer (some ⟨P, 0, none⟩)) _ _ x.e W h0 h.b5).mono ?_
    rintro e W' ⟨rfl, rfl⟩
    exact ⟨x, rfl, h, .inl ⟨h0, rfl⟩⟩

set_option maxHeartbeats 400000 in
theorem room_any (t q : Option Addr) (W : World) : Calls Tryz.prog 81 #[.pointer t, .pointer q] W fun e W' => e = .returned (.func (.func 93) #[] #[.pointer (some ⟨W.heap.size, 0, none⟩), .pointer (some ⟨W.heap.size + 1, 0, none⟩)]) ∧ W' = (W.alloc (.cells #[.pointer t] 63)).alloc (.cells #[.pointer q] 127) := by
  go_enter Tryz.func81, Tryz.ntmps81
  go_wp2
  go_ret
  exact ⟨rfl, rfl⟩

theorem info4 : (Tryz.prog.info? 24).map (fun i => (i.zero, i.size, i.bytes)) = some (some (.int .u32 0), 1, 4) := by kernel_rfl

set_option maxHeartbeats 1000000 in
theorem room1_no (a : Option Addr) (len cap : Nat) (P Q X : Nat) (n : Int) (W : World) (hP : Boxed W P 63 (.pointer (some ⟨X, 0, none⟩))) (hX : Boxed W X 24 (.int .u32 n)) (hn : 16 < n) :
    Calls Tryz.prog 93 #[.slice a len cap, .pointer (some ⟨P, 0, none⟩), .pointer (some ⟨Q, 0, none⟩)] W fun e W' => e = .returned (.tuple #[.int .i64 0, .int .i64 3]) ∧ W' = W := by
  have cP := hP.cell
  have cX := hX.cell
  go_enter Tryz.func93, Tryz.ntmps93
  go_wp2
  go_ret2
  exact ⟨rfl, rfl⟩

set_option maxHeartbeats 1000000 in
theorem room1_yes (a : Option Addr) (len cap : Nat) (P Q X Y : Nat) (n : Nat) (old : Value) (W : World) (hP : Boxed W P 63 (.pointer (some ⟨X, 0, none⟩))) (hQ : Boxed W Q 127 (.pointer (some ⟨Y, 2, none⟩))) (hX : Boxed W X 24 (.int .u32 n)) (hn : n ≤ 16)
    (hY : W.cell? ⟨Y, 2, none⟩ = some old) (hF : W.frozen? ⟨Y, 2, none⟩ = false) (hlt : Y < W.heap.size) :
    Calls Tryz.prog 93 #[.slice a len cap, .pointer (some ⟨P, 0, none⟩), .pointer (some ⟨Q, 0, none⟩)] W fun e W' => e = .returned (.tuple #[.int .i64 0, .int .i64 0]) ∧ ∃ W0, Below W.heap.size W W0 ∧ W0.ownsRow W.heap.size 24 1 (.slice (some ⟨W.heap.size, 0, none⟩) n n) n ((List.replicate n (0 : Int)).map (Value.int .u32)) ∧ W' = W0.setCell ⟨Y, 2, none⟩ (.slice (some ⟨W.heap.size, 0, none⟩) n n) := by
  have cP := hP.cell
  have cQ := hQ.cell
  have cX := hX.cell
  have hmk := run_make_row' (P := Tryz.prog) 25 24 (.int .u32 0) 4 Tryz.underlying25 info4 rfl .u32 .u32 n (by omega) (by omega)
  have hn' : (n : Int) ≤ 16 := by omega
  have lP := hP.lt
  have lQ := hQ.lt
  have lX := hX.lt
  have aB : ∀ {B : Nat} (o : Obj), B < W.heap.size → (W.alloc o).heap[B]? = W.heap[B]? := fun o h => Below.heap_alloc _ _ _ h
  have aP : ∀ o, (W.alloc o).cell? ⟨P, 0, none⟩ = some (.pointer (some ⟨X, 0, none⟩)) := fun o => (World.cell?_of_block (w := W) (a := ⟨P, 0, none⟩) (aB o lP)).trans cP
  have aQ : ∀ o, (W.alloc o).cell? ⟨Q, 0, none⟩ = some (.pointer (some ⟨Y, 2, none⟩)) := fun o => (World.cell?_of_block (w := W) (a := ⟨Q, 0, none⟩) (aB o lQ)).trans cQ
  have aX : ∀ o, (W.alloc o).cell? ⟨X, 0, none⟩ = some (.int .u32 n) := fun o => (World.cell?_of_block (w := W) (a := ⟨X, 0, none⟩) (aB o lX)).trans cX
  have aY : ∀ o, (W.alloc o).cell? ⟨Y, 2, none⟩ = some old := fun o => (World.cell?_of_block (w := W) (a := ⟨Y, 2, none⟩) (aB o hlt)).trans hY
  have aF : ∀ o, (W.alloc o).frozen? ⟨Y, 2, none⟩ = false := fun o => (World.frozen?_of_block (w := W) (a := ⟨Y, 2, none⟩) (aB o hlt)).trans hF
  clear aB
  go_enter Tryz.func93, Tryz.ntmps93
  go_wp2
  go_region
  all_goals
    go_wp2
    go_ret2
    refine ⟨rfl, (W.alloc (.cells (madeCells #[.int .u32 0] n) 24)).drew, (below_drew W).trans ?_, ?_, by rw [World.setCell_drew, World.setCell_alloc_past _ _ _ _ hlt]⟩
    · exact ((Below.refl W.drew.heap.size W.drew).alloc (Nat.le_refl _) _)
    · refine ⟨by simp, .inr ⟨W.heap.size, n, madeCells #[.int .u32 0] n, rfl, Nat.le_refl _, heap_alloc_new W _, Nat.le_refl _, by unfold maxLen; omega, ?_, ?_⟩⟩
      · have := congrArg List.length (toList_madeCells_one (.int .u32 0) n)
        simpa using this
      · rw [toList_madeCells_one]
        simp

def RoomStep (x y : GS) : Prop :=
  (x.e ≠ 0 ∧ y = x) ∨ (x.e = 0 ∧ 16 < x.n ∧ y = { x with e := 3 }) ∨
    (x.e = 0 ∧ x.n ≤ 16 ∧ ∃ b o' gb, y = { x with va := some ⟨gb, 0, none⟩, vn := x.n.toNat, vc := x.n.toNat, gs := List.replicate x.n.toNat 0, a := some ⟨b, o', none⟩, len := x.len - 0, cap := x.cap - 0, zs := x.zs.drop 0 })

/-- 'read(room(..))'. -/
theorem step_room {w : World} {x : GS} {W : World} (h : Gt w x W) (P Q : Nat) (hP : Boxed W P 63 (.pointer (some ⟨w.heap.size + 1 + 1 + 1, 0, none⟩))) (hQ : Boxed W Q 127 (.pointer (some ⟨w.heap.size + 1 + 1, 2, none⟩))) (ha : x.e = 0 → ∃ b off, x.a = some ⟨b, off, none⟩) (hn0 : x.e = 0 → 0 ≤ x.n) :
    Calls Tryz.prog 89 #[.func (.func 93) #[] #[.pointer (some ⟨P, 0, none⟩), .pointer (some ⟨Q, 0, none⟩)], .pointer (some ⟨w.heap.size + 1 + 1 + 1 + 1 + 1, 0, none⟩), .pointer (some ⟨w.heap.size + 1 + 1 + 1 + 1, 0, none⟩)] W fun e W' =>
      ∃ y, e = .returned (.int .i64 y.e) ∧ Gt w y W' ∧ RoomStep x y := by
  by_cases h0 : x.e = 0
  · by_cases hn : 16 < x.n
    · refine (read_room (.pointer (some ⟨P, 0, none⟩)) (.pointer (some ⟨Q, 0, none⟩)) _ _ x.a x.len x.cap W h.lc h.hm h.b4 (by rw [← h0]; exact h.b5) (fun sz er W' => sz = 0 ∧ er = 3 ∧ W' = W) ((room1_no x.a x.len x.cap P Q _ x.n W hP h.b3 hn).mono ?_) ?_).mono ?_
      · rintro e W' ⟨rfl, rfl⟩
        exact ⟨0, 3, rfl, rfl, rfl, rfl⟩
      · rintro sz er W1 ⟨rfl, rfl, rfl⟩
        exact ⟨h.b4, by rw [← h0]; exact h.b5, fun he => by simp at he⟩
      · rintro e W' ⟨sz, er, W1, ⟨rfl, rfl, rfl⟩, rfl, hh⟩
        rcases hh with ⟨_, rfl⟩ | ⟨hh, _⟩
        · exact ⟨{ x with e := 3 }, rfl, h.setE 3, .inr (.inl ⟨h0, hn, rfl⟩)⟩
        · simp at hh
    · have hnn : x.n = (x.n.toNat : Int) := by have := hn0 h0; omega
      obtain ⟨_, _, c2, _, _, f2⟩ := cred_at h.b2
      have hs6 : w.heap.size + 6 ≤ W.heap.size := by have := h.b5.lt; omega
      refine (read_room (.pointer (some ⟨P, 0, none⟩)) (.pointer (some ⟨Q, 0, none⟩)) _ _ x.a x.len x.cap W h.lc h.hm h.b4 (by rw [← h0]; exact h.b5) (fun sz er W' => sz = 0 ∧ er = 0 ∧ Gt w { x with va := some ⟨W.heap.size, 0, none⟩, vn := x.n.toNat, vc := x.n.toNat, gs := List.replicate x.n.toNat 0 } W') ((room1_yes x.a x.len x.cap P Q _ _ x.n.toNat _ W hP hQ (by rw [← hnn]; exact h.b3) (by omega) c2 f2 (Array.getElem?_eq_some_iff.1 h.b2).1).mono ?_) ?_).mono ?_
      · rintro e W' ⟨rfl, W0, hb, ho, rfl⟩
        exact ⟨0, 0, rfl, rfl, rfl, (h.next hb).setV _ _ _ _ (own_base ho hs6)⟩
      · rintro sz er W1 ⟨rfl, rfl, hg⟩
        exact ⟨hg.b4, by have := hg.b5; simp only [h0] at this; exact this, fun _ => ⟨by omega, ha h0⟩⟩
      · rintro e W' ⟨sz, er, W1, ⟨rfl, rfl, hg⟩, rfl, hh⟩
        rcases hh with ⟨hh, _⟩ | ⟨_, b, off, o', hab, ho, rfl⟩
        · simp at hh
        · exact ⟨_, by simp only; rw [h0], hg.adv b off o' 0 hab ho (by omega), .inr (.inr ⟨h0, by omega, b, o', _, rfl⟩)⟩
  · refine (kept_room (.pointer (some ⟨P, 0, none⟩)) (.pointer (some ⟨Q, 0, none⟩)) _ _ x.e W h0 h.b5).mono ?_
    rintro e W' ⟨rfl, rfl⟩
    exact ⟨x, rfl, h, .inl ⟨h0, rfl⟩⟩

set_option maxHeartbeats 400000 in
theorem end_any (a : Option Addr) (len cap : Nat) (W : World) : Calls Tryz.prog 82 #[.slice a len cap] W fun e W' => e = .returned (.tuple #[.int .i64 0, .int .i64 (if 0 < len then 5 else 0)]) ∧ W' = W := by
  by_cases h : 0 < len
  · rw [if_pos h]
    go_enter Tryz.func82, Tryz.ntmps82
    go_wp2
    go_ret2
    exact ⟨rfl, rfl⟩
  · rw [if_neg h]
    obtain rfl : len = 0 := by omega
    go_enter Tryz.func82, Tryz.ntmps82
    go_wp2
    go_ret2
    exact ⟨rfl, rfl⟩

def EndStep (x y : GS) : Prop :=
  (x.e ≠ 0 ∧ y = x) ∨ (x.e = 0 ∧ 0 < x.len ∧ y = { x with e := 5 }) ∨
    (x.e = 0 ∧ x.len = 0 ∧ ∃ b o', y = { x with a := some ⟨b, o', none⟩, len := x.len - 0, cap := x.cap - 0, zs := x.zs.drop 0 })

/-- 'read(end)'. -/
theorem step_end {w : World} {x : GS} {W : World} (h : Gt w x W) (ha : x.e = 0 → ∃ b off, x.a = some ⟨b, off, none⟩) :
    Calls Tryz.prog 89 #[.func (.func 82) #[] #[], .pointer (some ⟨w.heap.size + 1 + 1 + 1 + 1 + 1, 0, none⟩), .pointer (some ⟨w.heap.size + 1 + 1 + 1 + 1, 0, none⟩)] W fun e W' =>
      ∃ y, e = .returned (.int .i64 y.e) ∧ Gt w y W' ∧ EndStep x y := by
  by_cases h0 : x.e = 0
  · refine (read_end _ _ x.a x.len x.cap W h.lc h.hm h.b4 (by rw [← h0]; exact h.b5) (fun sz er W' => sz = 0 ∧ er = (if 0 < x.len then 5 else 0) ∧ W' = W) ((end_any x.a x.len x.cap W).mono ?_) ?_).mono ?_
    · rintro e W' ⟨rfl, rfl⟩
      exact ⟨0, _, rfl, rfl, rfl, rfl⟩
    · rintro sz er W1 ⟨rfl, rfl, rfl⟩
      exact ⟨h.b4, by rw [← h0]; exact h.b5, fun he => ⟨by omega, ha h0⟩⟩
    · rintro e W' ⟨sz, er, W1, ⟨rfl, rfl, rfl⟩, rfl, hh⟩
      by_cases hl : 0 < x.len
      · rw [if_pos hl] at hh ⊢
        rcases hh with ⟨_, rfl⟩ | ⟨hh, _⟩
        · exact ⟨{ x with e := 5 }, rfl, h.setE 5, .inr (.inl ⟨h0, hl, rfl⟩)⟩
        · simp at hh
      · rw [if_neg hl] at hh ⊢
        rcases hh with ⟨hh, _⟩ | ⟨_, b, off, o', hab, ho, rfl⟩
        · simp at hh
        · exact ⟨_, by simp only; rw [h0], h.adv b off o' 0 hab ho (by omega), .inr (.inr ⟨h0, by omega, b, o', rfl⟩)⟩
  · refine (kept_end _ _ x.e W h0 h.b5).mono ?_
    rintro e W' ⟨rfl, rfl⟩
    exact ⟨x, rfl, h, .inl ⟨h0, rfl⟩⟩
end Go.Proofs.YtciinabhelfnoaaGreatDoor
