/- 'reader.number', 'reader.end': one number of a span, the Body; the box of the reader. -/
import Derived.Test.YtmjhgpmeikpbkaaDoorRepSmall
import Derived.Test.YtmjhgpmeikpbkaaDoorRead4
import Derived.Test.YtmjhgpmeikpbkaaDoorClone
import Derived.Test.YtmjhgpmeikpbkaaDoorCuts
import Derived.Test.YtmjhgpmeikpbkaaDoorBookBase
import Derived.Test.YtmjhgpmeikpbkaaDoorRepMath
namespace Go.Proofs.YtmjhgpmeikpbkaaDoor
set_option linter.unusedVariables false
open Go.RowKit

theorem Byt.drop' {zs : List Int} (h : Byt zs) (n : Nat) : Byt (zs.drop n) := fun i => by rw [List.getElem?_drop]; exact h _

/-- The reader's box, and what of the bytes is left. -/
structure Rd (w W : World) (d : Nat) (a : Option Addr) (len cap : Nat) (zs : List Int) : Prop where
  box : W.heap[d]? = some (.cells #[.slice a len cap] 66)
  hz : zs.length = len
  le : len ≤ cap
  max : cap ≤ 9223372036854775807
  byt : Byt zs
  seg : Seg w a zs
  nil : a = none → len = 0 ∧ cap = 0
  low : w.heap.size ≤ d
  below : Below w.heap.size w W

theorem Rd.next {w W W' : World} {d : Nat} {a : Option Addr} {len cap : Nat} {zs : List Int} (h : Rd w W d a len cap zs) (hb : Below W.heap.size W W') : Rd w W' d a len cap zs :=
  ⟨box_next h.box hb, h.hz, h.le, h.max, h.byt, h.seg, h.nil, h.low, h.below.trans (hb.mono h.below.size)⟩

theorem one_at {W : World} {h : Nat} {x : Value} {t : TypeId} (hh : W.heap[h]? = some (.cells #[x] t)) : W.cell? ⟨h, 0, none⟩ = some x ∧ W.frozen? ⟨h, 0, none⟩ = false := by
  refine ⟨?_, ?_⟩ <;> simp [World.cell?, World.frozen?, hh]

theorem grown_set (W : World) (d o : Nat) (v : Value) : W.grownBy (W.setCell ⟨d, o, none⟩ v) (some d) := ⟨by simp [World.setCell], by simp [World.setCell], by simp [World.setCell], by simp [World.setCell], fun k hk hne => Below.heap_setCell _ _ _ _ (fun e => hne (by rw [e]))⟩

/-- One number of a span: the error, the number, what is left. -/
def nuE (s0 s1 : Int) (zs : List Int) : Int := if s0 = 0 ∧ s1 = 0 then 0 else if zs.length < 4 then 4 else if be (zs.take 4) < s0 ∨ s1 < be (zs.take 4) then 5 else 0
def nuN (s0 s1 : Int) (zs : List Int) : Int := if s0 = 0 ∧ s1 = 0 then 0 else if nuE s0 s1 zs = 0 then be (zs.take 4) else 0
def nuZ (s0 s1 : Int) (zs : List Int) : List Int := if s0 = 0 ∧ s1 = 0 then zs else zs.drop 4

structure NumPost (w W : World) (d : Nat) (s0 s1 : Int) (zs : List Int) (W' : World) : Prop where
  grown : W.grownBy W' (some d)
  left : nuE s0 s1 zs = 0 → ∃ a len cap, Rd w W' d a len cap (nuZ s0 s1 zs)

theorem Rd.lt {w W : World} {d : Nat} {a : Option Addr} {len cap : Nat} {zs : List Int} (h : Rd w W d a len cap zs) : d < W.heap.size := (Array.getElem?_eq_some_iff.1 h.box).1

/-- The reader goes on by a number. -/
theorem Rd.step {w W : World} {d : Nat} {a : Option Addr} {len cap : Nat} {zs : List Int} (h : Rd w W d a len cap zs) (h4 : 4 ≤ zs.length) {a' : Option Addr} (hs : Seg w a' (zs.drop 4)) (hn : a' = none → len - 4 = 0 ∧ cap - 4 = 0) :
    Rd w (W.setCell ⟨d, 0, none⟩ (.slice a' (len - 4) (cap - 4))) d a' (len - 4) (cap - 4) (zs.drop 4) := by
  have hz := h.hz
  have hle := h.le
  refine ⟨?_, by rw [List.length_drop]; omega, by omega, by have := h.max; omega, h.byt.drop' 4, hs, hn, h.low, h.below.setCell (p := ⟨d, 0, none⟩) h.low _⟩
  have := setCell_same (k := 0) h.box (.slice a' (len - 4) (cap - 4))
  simpa using this

set_option maxRecDepth 100000 in
set_option maxHeartbeats 2000000 in
theorem number_any (d : Nat) (s0 s1 : Int) (a : Option Addr) (len cap : Nat) (zs : List Int) (w W : World) (h : Rd w W d a len cap zs) :
    Calls Tryd.prog 71 #[.pointer (some ⟨d, 0, none⟩), .agg #[.int .u32 s0, .int .u32 s1]] W fun e W' => e = .returned (.tuple #[.int .u32 (nuN s0 s1 zs), .int .i64 (nuE s0 s1 zs)]) ∧ NumPost w W d s0 s1 zs W' := by
  have hd := h.lt
  have hB0 : ∀ o, Below W.heap.size W (W.alloc o) := fun o => (Below.refl _ _).alloc (Nat.le_refl _) o
  by_cases hs : s0 = 0 ∧ s1 = 0
  · obtain ⟨rfl, rfl⟩ := hs
    have e1 : nuN 0 0 zs = 0 := by simp [nuN]
    have e2 : nuE 0 0 zs = 0 := by simp [nuE]
    have e3 : nuZ 0 0 zs = zs := by simp [nuZ]
    go_enter Tryd.func71, Tryd.ntmps71
    go_wp2
    go_ret2
    exact ⟨by rw [e1, e2]; rfl, ⟨World.grownBy_alloc _ _ none |>.but _, fun _ => ⟨a, len, cap, by rw [e3]; exact h.next (hB0 _)⟩⟩⟩
  · have hse : ∀ w, (binOp .eql 55 (.agg #[.int .u32 s0, .int .u32 s1]) (.agg #[.int .u32 0, .int .u32 0])).run Tryd.prog w = .ok (.bool false) w := fun w => by
      rw [span_eql]
      have : ((s0 == 0) && (s1 == 0)) = false := by
        cases e0 : (s0 == 0) <;> cases e1 : (s1 == 0) <;> simp_all
      rw [this]
    have hc : ∀ o, (W.alloc o).cell? ⟨d, 0, none⟩ = some (.slice a len cap) := fun o => (one_at (h.next (hB0 o)).box).1
    have hgr0 : ∀ o, W.grownBy (W.alloc o) (some d) := fun o => (World.grownBy_alloc _ _ none).but _
    by_cases h4 : zs.length < 4
    · have e1 : getN zs = 0 := by simp [getN, h4]
      have e2 : getE zs = 4 := by simp [getE, h4]
      have e3 : nuE s0 s1 zs = 4 := by rw [nuE, if_neg hs, if_pos h4]
      have e4 : nuN s0 s1 zs = 0 := by rw [nuN, if_neg hs, e3]; simp
      rw [e3, e4]
      have hP : ∀ o, NumPost w W d s0 s1 zs (W.alloc o) := fun o => ⟨hgr0 o, fun e => by rw [e3] at e; cases e⟩
      clear e3 e4
      have hget : ∀ o, Calls Tryd.prog 78 #[.slice a len cap] (W.alloc o) fun e w' => e = .returned (.tuple #[.int .u32 0, .int .i64 4]) ∧ w' = W.alloc o := fun o => by
        have := get_any a len cap zs (W.alloc o) h.le h.max h.hz h.byt ((h.seg.below h.below).below (hB0 _))
        rwa [e1, e2] at this
      clear e1 e2 h4
      go_enter Tryd.func71, Tryd.ntmps71
      go_wp2_with (go_at_call 78; refine (hget _).mono ?_; rintro e w1 ⟨rfl, rfl⟩)
      go_ret2
      exact ⟨rfl, hP _⟩
    · have e1 : getN zs = be (zs.take 4) := by simp [getN, h4]
      have e2 : getE zs = 0 := by simp [getE, h4]
      have hget : ∀ o, Calls Tryd.prog 78 #[.slice a len cap] (W.alloc o) fun e w' => e = .returned (.tuple #[.int .u32 (be (zs.take 4)), .int .i64 0]) ∧ w' = W.alloc o := fun o => by
        have := get_any a len cap zs (W.alloc o) h.le h.max h.hz h.byt ((h.seg.below h.below).below (hB0 _))
        rwa [e1, e2] at this
      clear e1 e2
      have e5 : nuE s0 s1 zs = if be (zs.take 4) < s0 ∨ s1 < be (zs.take 4) then 5 else 0 := by rw [nuE, if_neg hs, if_neg h4]
      have e6 : nuN s0 s1 zs = if nuE s0 s1 zs = 0 then be (zs.take 4) else 0 := by rw [nuN, if_neg hs]
      have e7 : nuZ s0 s1 zs = zs.drop 4 := by rw [nuZ, if_neg hs]
      obtain ⟨a', hcut0, hseg', hnil'⟩ := cut_nil h.seg h.hz h.le h.nil 4 (by have := h.hz; omega)
      have hcut : ∀ W, (Instr.slice 24 (.slice a len cap) (some (.int .i64 4)) none none).run Tryd.prog W = .ok (.slice a' (len - 4) (cap - 4)) W := hcut0
      clear hcut0
      generalize be (zs.take 4) = x at *
      by_cases hx : s0 ≤ x ∧ x ≤ s1
      · rw [if_neg (by omega)] at e5
        rw [e5] at e6
        rw [if_pos rfl] at e6
        rw [e5, e6]
        have hP : ∀ o W', Below (W.alloc o).heap.size (W.alloc o) W' → (∃ v, W'.cell? ⟨d, 0, none⟩ = some (.slice a len cap) ∧ W'.frozen? ⟨d, 0, none⟩ = false ∧ v = W') ∧ NumPost w W d s0 s1 zs (W'.setCell ⟨d, 0, none⟩ (.slice a' (len - 4) (cap - 4))) := fun o W' hb => by
          have hr := (h.next (hB0 o)).next hb
          obtain ⟨k1, k2⟩ := one_at hr.box
          exact ⟨⟨W', k1, k2, rfl⟩, ((hgr0 o).andThen (grown_below hb none) (fun j hj => by cases hj)).andThen (grown_set _ _ _ _) (fun j hj => .inr hj), fun _ => ⟨a', _, _, by rw [e7]; exact hr.step (by omega) hseg' hnil'⟩⟩
        have hh : (decide (s0 ≤ x) && decide (x ≤ s1)) = true := by rw [← Bool.decide_and]; exact decide_eq_true hx
        have hhas : ∀ o, Calls Tryd.prog 54 #[.agg #[.int .u32 s0, .int .u32 s1], .int .u32 x] (W.alloc o) fun e w' => e = .returned (.bool true) ∧ Below (W.alloc o).heap.size (W.alloc o) w' := fun o => by
          have := has_any s0 s1 x (W.alloc o)
          rwa [hh] at this
        clear e5 e6 e7 hh hx h4
        go_enter Tryd.func71, Tryd.ntmps71
        go_wp2_with (first
          | (go_at_call 78; refine (hget _).mono ?_; rintro e w1 ⟨rfl, rfl⟩)
          | (go_at_call 54; refine (hhas _).mono ?_; rintro e w2 ⟨rfl, hb2⟩; obtain ⟨⟨_, k1, k2, _⟩, hQ⟩ := hP _ _ hb2))
        go_ret2
        exact ⟨rfl, hQ⟩
      · rw [if_pos (by omega)] at e5
        rw [e5] at e6
        rw [if_neg (by decide)] at e6
        rw [e5, e6]
        have hP : ∀ o W', Below (W.alloc o).heap.size (W.alloc o) W' → NumPost w W d s0 s1 zs W' := fun o W' hb => ⟨(hgr0 o).andThen (grown_below hb none) (fun j hj => by cases hj), fun e => by rw [e5] at e; cases e⟩
        have hh : (decide (s0 ≤ x) && decide (x ≤ s1)) = false := by rw [← Bool.decide_and]; exact decide_eq_false hx
        have hhas : ∀ o, Calls Tryd.prog 54 #[.agg #[.int .u32 s0, .int .u32 s1], .int .u32 x] (W.alloc o) fun e w' => e = .returned (.bool false) ∧ Below (W.alloc o).heap.size (W.alloc o) w' := fun o => by
          have := has_any s0 s1 x (W.alloc o)
          rwa [hh] at this
        clear e5 e6 e7 hh hx h4
        go_enter Tryd.func71, Tryd.ntmps71
        go_wp2_with (first
          | (go_at_call 78; refine (hget _).mono ?_; rintro e w1 ⟨rfl, rfl⟩)
          | (go_at_call 54; refine (hhas _).mono ?_; rintro e w2 ⟨rfl, hb2⟩; have hQ := hP _ _ hb2))
        go_ret2
        exact ⟨rfl, hQ⟩

set_option maxRecDepth 100000 in
set_option maxHeartbeats 1000000 in
theorem end_yes (d : Nat) (a : Option Addr) (len cap : Nat) (zs : List Int) (w W : World) (h : Rd w W d a len cap zs) (hm : len ≤ 140737488355328) :
    Calls Tryd.prog 73 #[.pointer (some ⟨d, 0, none⟩), .bool true] W fun e W' => ∃ v, e = .returned (.tuple #[v, .int .i64 0]) ∧ W'.ownsRow W.heap.size 5 1 v len (zs.map (Value.int .u8)) ∧ Below W.heap.size W W' := by
  obtain ⟨hc, _⟩ := one_at h.box
  go_enter Tryd.func73, Tryd.ntmps73
  go_wp2_with (go_at_call 80; refine (clone_any a len cap zs W h.le hm h.hz (h.seg.below h.below) h.nil).mono ?_; rintro e w1 ⟨v, rfl, ho, hb⟩)
  go_ret2
  exact ⟨v, rfl, ho, hb⟩

set_option maxRecDepth 100000 in
set_option maxHeartbeats 1000000 in
theorem end_no (d : Nat) (a : Option Addr) (len cap : Nat) (zs : List Int) (w W : World) (h : Rd w W d a len cap zs) :
    Calls Tryd.prog 73 #[.pointer (some ⟨d, 0, none⟩), .bool false] W fun e W' => e = .returned (.tuple #[.slice none 0 0, .int .i64 (if 0 < zs.length then 5 else 0)]) ∧ W' = W := by
  obtain ⟨hc, _⟩ := one_at h.box
  rw [h.hz]
  by_cases h0 : 0 < len
  · rw [if_pos h0]
    go_enter Tryd.func73, Tryd.ntmps73
    go_wp2
    go_ret2
    exact ⟨rfl, rfl⟩
  · rw [if_neg h0]
    obtain rfl : len = 0 := by omega
    go_enter Tryd.func73, Tryd.ntmps73
    go_wp2
    go_ret2
    exact ⟨rfl, rfl⟩
end Go.Proofs.YtmjhgpmeikpbkaaDoor
