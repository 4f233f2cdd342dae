/- 'setting' of the program: how a time is set, and to which; nothing that was there turns. -/
import Derived.Test.YtecbhhfncklefaaDoorPMakeMx
import Derived.Test.YtecbhhfncklefaaDoorAttrMath2
namespace Go.Proofs.YtecbhhfncklefaaDoor
set_option linter.unusedVariables false
open Go.RowKit

theorem infoSg8 : (Tryd.prog.info? 5).map (fun i => (i.zero, i.size, i.bytes)) = some (some (.int .u8 0), 1, 1) := by kernel_rfl
/-- May it be set so? Its bytes. -/
def hwM (h s n : Int) : Bool := decide (h ≤ 2) && (if h == 2 then tok n else (s == 0 && n == 0))
def hwZ (h s n : Int) : List Int := bytesOf h 4 ++ if h == 2 then tB s n else []
theorem hwZ_le (h s n : Int) : (hwZ h s n).length ≤ 12 := by
  unfold hwZ
  split <;> simp [bytesOf_length, tB_length]

theorem enter_setting : ∀ (args : Array Value) (w : World), (callFunc 72 args).run Tryd.prog w = .ok (.enter 72 args) w := fun _ _ => by simp [go_sem]

set_option maxRecDepth 100000 in
set_option maxHeartbeats 2000000 in
theorem setting1_any (h s n : Int) (h0 : 0 ≤ h) (h1 : h ≤ 4294967295) (s0 : 0 ≤ s) (s1 : s ≤ 4294967295) (n0 : 0 ≤ n) (n1 : n ≤ 4294967295) (g k : Nat) (w : World) (hc : w.heap[g]? = some (.cells #[.int .u32 h] 35)) (ht : Tp w k s n) :
    Calls Tryd.prog 72 #[.pointer (some ⟨g, 0, none⟩), .pointer (some ⟨k, 0, none⟩)] w (Told1 (hwM h s n) (hwZ h s n) w) := by
  obtain ⟨i0, hi, hz0, hz1, hz2⟩ := info_parts infoSg8
  have c0 : w.cell? ⟨g, 0, none⟩ = some (.int .u32 h) := by simp [World.cell?, hc]
  have hlt : g < w.heap.size := (Array.getElem?_eq_some_iff.1 hc).1
  have hp := fun W => Put_any h h0 h1 W
  have hm := fun W => moment_any s n s0 s1 n0 n1 W
  have heq := fun W => time_eql s n 0 0 W
  cases hle : decide (h ≤ 2) with
  | false =>
    have hM : hwM h s n = false := by simp [hwM, hle]
    rw [hM]
    clear hM
    go_enter Tryd.func72, Tryd.ntmps72
    go_wp2_with (go_at_call 65; refine (need_no _ _).mono ?_; rintro e w2 ⟨rfl, hw2⟩; subst w2)
    exact ⟨rfl, told_no (Below.refl _ _)⟩
  | true =>
    cases h2 : (h == 2) with
    | false =>
      cases hz : ((s == 0) && (n == 0)) with
      | false =>
        have hM : hwM h s n = false := by simp only [hwM, hle, h2, hz]; rfl
        rw [hM]
        rw [hz] at heq
        clear hM hm
        go_enter Tryd.func72, Tryd.ntmps72
        go_wp2_with (first
          | (go_at_call 65; have _g := hb3; refine (need_no _ _).mono ?_; rintro e w4 ⟨rfl, hw4⟩; subst w4)
          | (go_at_call 65; refine (need_yes _ _).mono ?_; rintro e w2 ⟨rfl, hw2⟩; subst w2)
          | (go_at_call 67; refine (hp _).mono ?_; rintro e w3 ⟨rfl, ho3, hb3⟩; have t3 := ht.next hb3; have d0 := t3.c0; have d1 := t3.c1; have c3 := (hb3.cell (p := ⟨g, 0, none⟩) hlt).trans c0))
        exact ⟨rfl, told_no hb3⟩
      | true =>
        have hM : hwM h s n = true := by simp only [hwM, hle, h2, hz]; rfl
        have hZ : hwZ h s n = bytesOf h 4 := by simp [hwZ, h2]
        rw [hM, hZ]
        rw [hz] at heq
        clear hM hZ hm
        go_enter Tryd.func72, Tryd.ntmps72
        go_wp2_with (first
          | (go_at_call 65; refine (need_yes _ _).mono ?_; rintro e w2 ⟨rfl, hw2⟩; subst w2)
          | (go_at_call 67; refine (hp _).mono ?_; rintro e w3 ⟨rfl, ho3, hb3⟩; have t3 := ht.next hb3; have d0 := t3.c0; have d1 := t3.c1; have c3 := (hb3.cell (p := ⟨g, 0, none⟩) hlt).trans c0))
        go_ret
        exact told_yes hb3 (bytesOf_length h 4) ho3
    | true =>
      have hZ : hwZ h s n = bytesOf h 4 ++ tB s n := by simp [hwZ, h2]
      have hM : hwM h s n = tok n := by simp [hwM, hle, h2]
      rw [hM, hZ]
      clear hM hZ heq
      cases htk : tok n with
      | false =>
        rw [htk] at hm
        go_enter Tryd.func72, Tryd.ntmps72
        go_wp2_with (first
          | (go_at_call 65; refine (need_yes _ _).mono ?_; rintro e w2 ⟨rfl, hw2⟩; subst w2)
          | (go_at_call 39; have _g := hb3; refine (hm _).mono ?_; rintro e w5 ⟨v5, rfl, ⟨K5, caps, rfl, hen, hcl⟩, hb5⟩)
          | (go_at_call 67; refine (hp _).mono ?_; rintro e w3 ⟨rfl, ho3, hb3⟩; have t3 := ht.next hb3; have d0 := t3.c0; have d1 := t3.c1; have c3 := (hb3.cell (p := ⟨g, 0, none⟩) hlt).trans c0))
        refine (hcl w5 (Below.refl _ _)).mono ?_
        intro e w6 hT
        obtain ⟨hb6, rfl⟩ := told_false hT
        have hB5 := hb3.trans (hb5.mono hb3.size)
        exact ⟨rfl, told_no (hB5.trans (hb6.mono hB5.size))⟩
      | true =>
        rw [htk] at hm
        go_enter Tryd.func72, Tryd.ntmps72
        go_wp2_with (first
          | (go_at_call 65; refine (need_yes _ _).mono ?_; rintro e w2 ⟨rfl, hw2⟩; subst w2)
          | (go_at_call 39; have _g := hb3; refine (hm _).mono ?_; rintro e w5 ⟨v5, rfl, ⟨K5, caps, rfl, hen, hcl⟩, hb5⟩)
          | (go_at_call 67; refine (hp _).mono ?_; rintro e w3 ⟨rfl, ho3, hb3⟩; have t3 := ht.next hb3; have d0 := t3.c0; have d1 := t3.c1; have c3 := (hb3.cell (p := ⟨g, 0, none⟩) hlt).trans c0))
        refine (hcl w5 (Below.refl _ _)).mono ?_
        intro e w6 hT
        obtain ⟨hb6, v6, rfl, ho6⟩ := told_true hT
        rw [tB_length] at ho6
        obtain ⟨G, c, rfl, _, _, _⟩ := own_shape ho6 (by omega)
        have hB5 := hb3.trans (hb5.mono hb3.size)
        have hB6 := hB5.trans (hb6.mono hB5.size)
        have o6 := own_below (own_below ho3 hb5) hb6
        have s6 := seg_own ho6 (tB_length s n)
        clear hcl hm hp hb3 hb5 ho3 ho6 d0 d1 c3 t3 hc ht c0 hb6 hB5
        go_wp2_with (at_builtin; refine wpList_append_each _ rfl _ _ 29 rfl w.heap.size 5 i0 (.int .u8 0) 1 1 Tryd.underlying29 hi hz0 hz1 hz2 rfl (by decide) _ 4 _ rfl o6 (some ⟨G, 0, none⟩) 8 c ((tB s n).map (Value.int .u8)) rfl (by simp) (by rw [List.length_map, tB_length]) (fun b e => seg_news (by rw [← e]; exact s6)) (news_one _) (by unfold maxLen; omega) (by omega) hB6.size ?_; intro v7 W7 o7 r7)
        go_ret
        rw [← List.map_append] at o7
        exact told_yes (hB6.grown r7 hB6.size (fun k e => own_low o6 e)) (by simp [bytesOf_length, tB_length]) o7

set_option maxRecDepth 100000 in
set_option maxHeartbeats 1000000 in
theorem setting_any (h s n : Int) (h0 : 0 ≤ h) (h1 : h ≤ 4294967295) (s0 : 0 ≤ s) (s1 : s ≤ 4294967295) (n0 : 0 ≤ n) (n1 : n ≤ 4294967295) (w : World) :
    Calls Tryd.prog 25 #[.int .u32 h, .agg #[.int .u32 s, .int .u32 n]] w fun e w' => ∃ v, e = .returned v ∧ Tells w' v (hwM h s n) (hwZ h s n) ∧ Below w.heap.size w w' := by
  have hmf := made
  have key := fun g k W => setting1_any h s n h0 h1 s0 s1 n0 n1 g k W
  generalize hwM h s n = M at key ⊢
  generalize hwZ h s n = Z at key ⊢
  have g0 := World.alloc_heap_new w (.cells #[.int .u32 h] 35)
  have b0 : Below w.heap.size w (w.alloc (.cells #[.int .u32 h] 35)) := (Below.refl _ _).alloc (Nat.le_refl _) _
  have g1 := World.alloc_heap_new (w.alloc (.cells #[.int .u32 h] 35)) (.cells #[.int .u32 s, .int .u32 n] 26)
  have b1 := b0.alloc b0.size (.cells #[.int .u32 s, .int .u32 n] 26)
  rw [show (w.alloc (.cells #[.int .u32 h] 35)).heap.size = w.heap.size + 1 by simp] at g1
  go_enter Tryd.func25, Tryd.ntmps25
  go_wp2
  go_ret
  replace g0 := (Below.heap_alloc _ (.cells #[.int .u32 s, .int .u32 n] 26) w.heap.size (by simp)).trans g0
  refine ⟨_, rfl, ⟨_, _, rfl, enter_setting, fun W hW => ?_⟩, b1⟩
  generalize ((w.alloc (.cells #[.int .u32 h] 35)).alloc (.cells #[.int .u32 s, .int .u32 n] 26)) = W2 at *
  exact key _ _ W ((hW.block _ (Array.getElem?_eq_some_iff.1 g0).1).trans g0) ((hW.block _ (Array.getElem?_eq_some_iff.1 g1).1).trans g1)
end Go.Proofs.YtecbhhfncklefaaDoor
