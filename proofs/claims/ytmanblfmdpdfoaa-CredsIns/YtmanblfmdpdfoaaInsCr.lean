/- The walk of 'CredsIns': true for anybody and any group; nothing that was there turns. -/
import Derived.Test.YtmanblfmdpdfoaaBeyond
import Derived.Test.YtmanblfmdpdfoaaCredTwin
import Derived.Test.YtmanblfmdpdfoaaRefIn
import Derived.Deep.RegionHeld3
import Derived.WalkSmall
namespace Go.Proofs.Ytmanblfmdpdfoaa
set_option linter.unusedVariables false
open Go.RowKit

/-- What stays: the two boxes, the Groups, their twin. -/
structure Ki (w : World) (H T : Nat) (u g : Int) (a : Option Addr) (len cap gb : Nat) (gs : List Int) (W : World) : Prop where
  below : Below w.heap.size w W
  one : W.heap[H]? = some (.cells #[.int .u32 u, .int .u32 g, .slice a len cap] 25)
  two : W.heap[T]? = some (.cells #[.int .u32 u, .int .u32 g, .slice (some ⟨gb, 0, none⟩) len (len + 1)] 25)
  seg : Seg4 W a gs
  twin : IsTwin4 W gb gs

theorem Ki.next {w : World} {H T : Nat} {u g : Int} {a : Option Addr} {len cap gb : Nat} {gs : List Int} {W W' : World} (h : Ki w H T u g a len cap gb gs W) (hb : Below W.heap.size W W') : Ki w H T u g a len cap gb gs W' :=
  ⟨h.below.trans (hb.mono h.below.size), (hb.block _ (Array.getElem?_eq_some_iff.1 h.one).1).trans h.one, (hb.block _ (Array.getElem?_eq_some_iff.1 h.two).1).trans h.two, h.seg.below hb, h.twin.below hb⟩

theorem Ki.all {w : World} {H T : Nat} {u g : Int} {a : Option Addr} {len cap gb : Nat} {gs : List Int} {W : World} (h : Ki w H T u g a len cap gb gs W) : ((W.cell? ⟨H, 0, none⟩ = some (.int .u32 u) ∧ W.cell? ⟨H, 1, none⟩ = some (.int .u32 g) ∧ W.cell? ⟨H, 2, none⟩ = some (.slice a len cap)) ∧ (W.cell? ⟨T, 0, none⟩ = some (.int .u32 u) ∧ W.cell? ⟨T, 1, none⟩ = some (.int .u32 g) ∧ W.cell? ⟨T, 2, none⟩ = some (.slice (some ⟨gb, 0, none⟩) len (len + 1))) ∧ Ki w H T u g a len cap gb gs W) :=
  have h1 := cred_at h.one
  have h2 := cred_at h.two
  ⟨⟨h1.1, h1.2.1, h1.2.2.1⟩, ⟨h2.1, h2.2.1, h2.2.2.1⟩, h⟩

section
variable {w : World} {H T : Nat} {u g : Int} {a : Option Addr} {len cap gb : Nat} {gs : List Int} {W : World}

theorem ki_in (h : Ki w H T u g a len cap gb gs W) (x : Int) (hl : len ≤ 1048576) (hz : gs.length = len) :
    Calls Try.prog 9 #[.agg #[.int .u32 u, .int .u32 g, .slice (some ⟨gb, 0, none⟩) len (len + 1)], .int .u32 x] W fun e W' => e = .returned (.bool (inG g gs x)) ∧ ((W'.cell? ⟨H, 0, none⟩ = some (.int .u32 u) ∧ W'.cell? ⟨H, 1, none⟩ = some (.int .u32 g) ∧ W'.cell? ⟨H, 2, none⟩ = some (.slice a len cap)) ∧ (W'.cell? ⟨T, 0, none⟩ = some (.int .u32 u) ∧ W'.cell? ⟨T, 1, none⟩ = some (.int .u32 g) ∧ W'.cell? ⟨T, 2, none⟩ = some (.slice (some ⟨gb, 0, none⟩) len (len + 1))) ∧ Ki w H T u g a len cap gb gs W') := by
  refine (in_any u g _ len _ gs x W (by omega) hz h.twin.seg).mono ?_
  rintro e W' ⟨rfl, hb⟩
  exact ⟨rfl, (h.next hb).all⟩
theorem ki_refin (h : Ki w H T u g a len cap gb gs W) (x : Int) (hl : len ≤ 1048576) (hz : gs.length = len) :
    Calls Try.prog 10 #[.agg #[.int .u32 u, .int .u32 g, .slice a len cap], .int .u32 x] W fun e W' => e = .returned (.bool (inG g gs x)) ∧ ((W'.cell? ⟨H, 0, none⟩ = some (.int .u32 u) ∧ W'.cell? ⟨H, 1, none⟩ = some (.int .u32 g) ∧ W'.cell? ⟨H, 2, none⟩ = some (.slice a len cap)) ∧ (W'.cell? ⟨T, 0, none⟩ = some (.int .u32 u) ∧ W'.cell? ⟨T, 1, none⟩ = some (.int .u32 g) ∧ W'.cell? ⟨T, 2, none⟩ = some (.slice (some ⟨gb, 0, none⟩) len (len + 1))) ∧ Ki w H T u g a len cap gb gs W') := by
  refine (refin_any u g _ len _ gs x W (by omega) hz h.seg).mono ?_
  rintro e W' ⟨rfl, hb⟩
  exact ⟨rfl, (h.next hb).all⟩
theorem ki_left (h : Ki w H T u g a len cap gb gs W) (hl : len ≤ 1048576) (hz : gs.length = len) :
    Calls Try.prog 11 #[.agg #[.int .u32 u, .int .u32 g, .slice (some ⟨gb, 0, none⟩) len (len + 1)], .agg #[.int .u32 u, .int .u32 g, .slice a len cap]] W fun e W' => e = .returned (.bool true) ∧ ((W'.cell? ⟨H, 0, none⟩ = some (.int .u32 u) ∧ W'.cell? ⟨H, 1, none⟩ = some (.int .u32 g) ∧ W'.cell? ⟨H, 2, none⟩ = some (.slice a len cap)) ∧ (W'.cell? ⟨T, 0, none⟩ = some (.int .u32 u) ∧ W'.cell? ⟨T, 1, none⟩ = some (.int .u32 g) ∧ W'.cell? ⟨T, 2, none⟩ = some (.slice (some ⟨gb, 0, none⟩) len (len + 1))) ∧ Ki w H T u g a len cap gb gs W') := by
  refine (leftcred_true u g gb a len cap gs W hl hz h.seg h.twin).mono ?_
  rintro e W' ⟨rfl, hb⟩
  exact ⟨rfl, (h.next hb).all⟩
theorem ki_nobody (h : Ki w H T u g a len cap gb gs W) :
    Calls Try.prog 13 #[] W fun e W' => e = .returned (.agg #[.int .u32 65534, .int .u32 65534, .slice none 0 0]) ∧ ((W'.cell? ⟨H, 0, none⟩ = some (.int .u32 u) ∧ W'.cell? ⟨H, 1, none⟩ = some (.int .u32 g) ∧ W'.cell? ⟨H, 2, none⟩ = some (.slice a len cap)) ∧ (W'.cell? ⟨T, 0, none⟩ = some (.int .u32 u) ∧ W'.cell? ⟨T, 1, none⟩ = some (.int .u32 g) ∧ W'.cell? ⟨T, 2, none⟩ = some (.slice (some ⟨gb, 0, none⟩) len (len + 1))) ∧ Ki w H T u g a len cap gb gs W') := by
  refine (nobody_any W).mono ?_
  rintro e W' ⟨rfl, hb⟩
  exact ⟨rfl, (h.next hb).all⟩
theorem ki_refnobody (h : Ki w H T u g a len cap gb gs W) :
    Calls Try.prog 14 #[] W fun e W' => e = .returned (.agg #[.int .u32 65534, .int .u32 65534, .slice none 0 0]) ∧ ((W'.cell? ⟨H, 0, none⟩ = some (.int .u32 u) ∧ W'.cell? ⟨H, 1, none⟩ = some (.int .u32 g) ∧ W'.cell? ⟨H, 2, none⟩ = some (.slice a len cap)) ∧ (W'.cell? ⟨T, 0, none⟩ = some (.int .u32 u) ∧ W'.cell? ⟨T, 1, none⟩ = some (.int .u32 g) ∧ W'.cell? ⟨T, 2, none⟩ = some (.slice (some ⟨gb, 0, none⟩) len (len + 1))) ∧ Ki w H T u g a len cap gb gs W') := by
  refine (refnobody_any W).mono ?_
  rintro e W' ⟨rfl, hb⟩
  exact ⟨rfl, (h.next hb).all⟩
theorem ki_same (h : Ki w H T u g a len cap gb gs W) :
    Calls Try.prog 12 #[.agg #[.int .u32 65534, .int .u32 65534, .slice none 0 0], .agg #[.int .u32 65534, .int .u32 65534, .slice none 0 0]] W fun e W' => e = .returned (.bool true) ∧ ((W'.cell? ⟨H, 0, none⟩ = some (.int .u32 u) ∧ W'.cell? ⟨H, 1, none⟩ = some (.int .u32 g) ∧ W'.cell? ⟨H, 2, none⟩ = some (.slice a len cap)) ∧ (W'.cell? ⟨T, 0, none⟩ = some (.int .u32 u) ∧ W'.cell? ⟨T, 1, none⟩ = some (.int .u32 g) ∧ W'.cell? ⟨T, 2, none⟩ = some (.slice (some ⟨gb, 0, none⟩) len (len + 1))) ∧ Ki w H T u g a len cap gb gs W') := by
  refine (samecred_true 65534 65534 none none 0 0 0 [] W (by omega) rfl (.inl rfl) (.inl rfl)).mono ?_
  rintro e W' ⟨rfl, hb⟩
  exact ⟨rfl, (h.next hb).all⟩
end

theorem own_self4 {w : World} {base e g n cap size : Nat} {xs : List Value} (h : w.ownsRow base e size (.slice (some ⟨g, 0, none⟩) n cap) n xs) : w.ownsRow g e size (.slice (some ⟨g, 0, none⟩) n cap) n xs := by
  refine ⟨h.1, ?_⟩
  rcases h.2 with ⟨h1, _⟩ | ⟨g', cap', cur, hv, _, r⟩
  · cases h1
  · cases hv
    exact .inr ⟨g, cap, cur, rfl, Nat.le_refl _, r⟩

set_option maxRecDepth 100000 in
set_option maxHeartbeats 4000000 in
theorem cins_walk (u g : Int) (a : Option Addr) (len cap : Nat) (gs : List Int) (x : Int) (w : World) (hlc : len ≤ cap) (hcm : cap ≤ 140737488351232) (hz : gs.length = len) (hs : Seg4 w a gs) :
    Calls Try.prog 3 #[.agg #[.int .u32 u, .int .u32 g, .slice a len cap], .int .u32 x] w fun e w' => e = .returned (.bool true) ∧ Below w.heap.size w w' := by
  have hB0 : Below w.heap.size w (w.alloc (.cells #[.int .u32 u, .int .u32 g, .slice a len cap] 25)) := (Below.refl _ _).alloc (Nat.le_refl _) _
  have hd0 := heap_alloc_new w (.cells #[.int .u32 u, .int .u32 g, .slice a len cap] 25)
  have hsz0 : (w.alloc (.cells #[.int .u32 u, .int .u32 g, .slice a len cap] 25)).heap.size = w.heap.size + 1 := by simp
  obtain ⟨c0, c1, c2, _, _, _⟩ := cred_at hd0
  by_cases hl : 1048576 < len
  · go_enter Try.func3, Try.ntmps3
    go_wp2_with fail
    generalize w.alloc (.cells #[.int .u32 u, .int .u32 g, .slice a len cap] 25) = w0 at *
    have hB1 := hB0.alloc hB0.size (.cells #[.int .i64 (len : Int)] 3)
    refine (beyond_yes (len : Int) _ _ (by omega) (by omega) (by rw [← hsz0]; simp)).mono ?_
    rintro e w' ⟨rfl, rfl⟩
    go_wp2
    go_ret
    exact ⟨rfl, hB1⟩
  · go_enter Try.func3, Try.ntmps3
    go_wp2_with fail
    generalize w.alloc (.cells #[.int .u32 u, .int .u32 g, .slice a len cap] 25) = w0 at *
    have hb1 : Below w0.heap.size w0 (w0.alloc (.cells #[.int .i64 (len : Int)] 3)) := (Below.refl _ _).alloc (Nat.le_refl _) _
    refine (beyond_no (len : Int) _ _ (by omega) (by omega) (by rw [← hsz0]; simp)).mono ?_
    rintro e w' ⟨rfl, rfl⟩
    generalize w0.alloc (.cells #[.int .i64 (len : Int)] 3) = w1 at *
    have hB1 := hB0.trans (hb1.mono hB0.size)
    have hd1 := (hb1.block _ (Array.getElem?_eq_some_iff.1 hd0).1).trans hd0
    clear hb1 hB0 hd0 c0 c1 c2 hsz0
    obtain ⟨c0, c1, c2, _, _, _⟩ := cred_at hd1
    go_wp2_with fail
    refine (twincred_any u g a len cap gs w1 (by omega) hz (hs.below hB1)).mono ?_
    rintro e w2 ⟨gb, rfl, hb2, ho2⟩
    have hB2 := hB1.trans (hb2.mono hB1.size)
    have hd2 := (hb2.block _ (Array.getElem?_eq_some_iff.1 hd1).1).trans hd1
    have ht2 : IsTwin4 w2 gb gs := by
      obtain ⟨h1, h2⟩ := twin4_cells hz (own_self4 ho2)
      subst hz
      exact ⟨h1, h2⟩
    clear hb2 hB1 hd1 c0 c1 c2 ho2
    have hb3 : Below w2.heap.size w2 (w2.alloc (.cells #[.int .u32 u, .int .u32 g, .slice (some ⟨gb, 0, none⟩) len (len + 1)] 25)) := (Below.refl _ _).alloc (Nat.le_refl _) _
    have k3 : Ki w w.heap.size w2.heap.size u g a len cap gb gs (w2.alloc (.cells #[.int .u32 u, .int .u32 g, .slice (some ⟨gb, 0, none⟩) len (len + 1)] 25)) :=
      ⟨hB2.trans (hb3.mono hB2.size), (hb3.block _ (Array.getElem?_eq_some_iff.1 hd2).1).trans hd2, heap_alloc_new w2 _, (hs.below hB2).below hb3, ht2.below hb3⟩
    clear hb3 hB2 hd2 ht2
    go_wp2_with fail
    generalize w2.alloc (.cells #[.int .u32 u, .int .u32 g, .slice (some ⟨gb, 0, none⟩) len (len + 1)] 25) = w3 at *
    obtain ⟨H, hH⟩ : ∃ H, H = w.heap.size := ⟨_, rfl⟩
    rw [← hH] at k3 ⊢
    clear hH
    generalize w2.heap.size = T at *
    have k4 := (k3.next (below_drewN (Below.refl _ _) 1)).all
    have k4' := k4.2.2
    have q : (inG g gs x == inG g gs x) = true := by simp
    generalize inG g gs x = I at *
    go_region_held3 (fun w' => ((w'.cell? ⟨H, 0, none⟩ = some (.int .u32 u) ∧ w'.cell? ⟨H, 1, none⟩ = some (.int .u32 g) ∧ w'.cell? ⟨H, 2, none⟩ = some (.slice a len cap)) ∧ (w'.cell? ⟨T, 0, none⟩ = some (.int .u32 u) ∧ w'.cell? ⟨T, 1, none⟩ = some (.int .u32 g) ∧ w'.cell? ⟨T, 2, none⟩ = some (.slice (some ⟨gb, 0, none⟩) len (len + 1))) ∧ Ki w H T u g a len cap gb gs w')) (assumption) (first
      | (go_at_call 9; refine (ki_in (by assumption) x (by omega) hz).mono ?_; rintro e w' ⟨rfl, hk⟩; have hk2 := hk.2.2)
      | (go_at_call 10; refine (ki_refin (by assumption) x (by omega) hz).mono ?_; rintro e w' ⟨rfl, hk⟩; have hk2 := hk.2.2)
      | (go_at_call 11; refine (ki_left (by assumption) (by omega) hz).mono ?_; rintro e w' ⟨rfl, hk⟩; have hk2 := hk.2.2)
      | (go_at_call 13; refine (ki_nobody (by assumption)).mono ?_; rintro e w' ⟨rfl, hk⟩; have hk2 := hk.2.2)
      | (go_at_call 14; refine (ki_refnobody (by assumption)).mono ?_; rintro e w' ⟨rfl, hk⟩; have hk2 := hk.2.2)
      | (go_at_call 12; refine (ki_same (by assumption)).mono ?_; rintro e w' ⟨rfl, hk⟩; have hk2 := hk.2.2))
    all_goals
      go_wp2
      go_ret
      exact ⟨rfl, (by assumption : Ki w _ _ u g a len cap gb gs _).below⟩
end Go.Proofs.Ytmanblfmdpdfoaa
