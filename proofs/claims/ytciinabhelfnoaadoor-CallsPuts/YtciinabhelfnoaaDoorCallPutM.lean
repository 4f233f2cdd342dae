/- 'Put' of a call: what the program answers; nothing that was there turns. -/
import Derived.Test.YtciinabhelfnoaaDoorCredPutM
import Derived.Test.YtciinabhelfnoaaDoorCallMathM
import Derived.Test.YtciinabhelfnoaaDoorPxKitAppendEachM
import Derived.Test.YtciinabhelfnoaaDoorPutOpqM
import Derived.Outline
namespace Go.Proofs.YtciinabhelfnoaaDoor
set_option linter.unusedVariables false
open Go.RowKit

theorem call_at {W : World} {h : Nat} {x0 x1 x2 x3 x4 x5 x6 x7 x8 x9 x10 : Value} {t : TypeId} (hh : W.heap[h]? = some (.cells #[x0, x1, x2, x3, x4, x5, x6, x7, x8, x9, x10] t)) :
    W.cell? ⟨h, 0, none⟩ = some x0 ∧ W.cell? ⟨h, 1, none⟩ = some x1 ∧ W.cell? ⟨h, 2, none⟩ = some x2 ∧ W.cell? ⟨h, 3, none⟩ = some x3 ∧ W.cell? ⟨h, 4, none⟩ = some x4 ∧ W.cell? ⟨h, 5, none⟩ = some x5 ∧ W.cell? ⟨h, 6, none⟩ = some x6 ∧ W.cell? ⟨h, 7, none⟩ = some x7 ∧ W.cell? ⟨h, 8, none⟩ = some x8 ∧ W.cell? ⟨h, 9, none⟩ = some x9 ∧ W.cell? ⟨h, 10, none⟩ = some x10 := by
  refine ⟨?_, ?_, ?_, ?_, ?_, ?_, ?_, ?_, ?_, ?_, ?_⟩ <;> simp [World.cell?, hh]

theorem isEmpty_size' (m : ByteArray) : m.toList.isEmpty = decide (m.size = 0) := by
  rw [ByteArray.toList_eq]
  have e : m.data.toList.length = m.size := by rw [Array.length_toList]; rfl
  rw [← e]
  cases m.data.toList <;> simp

/-- Nobody is told. -/
def Nob (m : ByteArray) (s u g : Int) (gl : Nat) : Prop := m.size = 0 ∧ s = 0 ∧ u = 0 ∧ g = 0 ∧ gl = 0

set_option maxHeartbeats 1000000 in
theorem nobody_any (x p v c f : Int) (m : ByteArray) (s u g : Int) (ga : Option Addr) (gl gc : Nat) (ba : Option Addr) (bl bc : Nat) (w : World) (hg : gl ≤ 9223372036854775807) :
    Calls Tryd.prog 48 #[.agg #[.int .u32 x, .int .u32 p, .int .u32 v, .int .u32 c, .int .u32 f, .string m, .int .u32 s, .int .u32 u, .int .u32 g, .slice ga gl gc, .slice ba bl bc]] w fun e w' => Below w.heap.size w w' ∧ ((Nob m s u g gl ∧ e = .returned (.bool true)) ∨ (¬ Nob m s u g gl ∧ e = .returned (.bool false))) := by
  have hB : Below w.heap.size w (w.alloc (.cells #[.int .u32 x, .int .u32 p, .int .u32 v, .int .u32 c, .int .u32 f, .string m, .int .u32 s, .int .u32 u, .int .u32 g, .slice ga gl gc, .slice ba bl bc] 28)) := (Below.refl _ _).alloc (Nat.le_refl _) _
  have hm := isEmpty_size' m
  by_cases h1 : m.size = 0
  case neg =>
    have h1' : decide (m.size = 0) = false := by simpa using h1
    rw [h1'] at hm
    go_enter Tryd.func48, Tryd.ntmps48
    go_wp2
    go_ret
    exact ⟨hB, .inr ⟨fun h => h1 h.1, rfl⟩⟩
  have h1' : decide (m.size = 0) = true := by simpa using h1
  rw [h1'] at hm
  have H1 : Hid (m.size = 0) := h1
  clear h1 h1'
  by_cases h2 : s = 0
  case neg =>
    have h2' : (s == 0) = false := by simpa using h2
    go_enter Tryd.func48, Tryd.ntmps48
    go_wp2
    go_ret
    exact ⟨hB, .inr ⟨fun h => h2 h.2.1, rfl⟩⟩
  subst h2
  by_cases h3 : u = 0
  case neg =>
    have h3' : (u == 0) = false := by simpa using h3
    go_enter Tryd.func48, Tryd.ntmps48
    go_wp2
    go_ret
    exact ⟨hB, .inr ⟨fun h => h3 h.2.2.1, rfl⟩⟩
  subst h3
  by_cases h4 : g = 0
  case neg =>
    have h4' : (g == 0) = false := by simpa using h4
    go_enter Tryd.func48, Tryd.ntmps48
    go_wp2
    go_ret
    exact ⟨hB, .inr ⟨fun h => h4 h.2.2.2.1, rfl⟩⟩
  subst h4
  by_cases h5 : gl = 0
  · subst h5
    go_enter Tryd.func48, Tryd.ntmps48
    go_wp2
    go_ret
    exact ⟨hB, .inl ⟨⟨H1.out, rfl, rfl, rfl, rfl⟩, rfl⟩⟩
  · have h5' : ((gl : Int) == 0) = false := by simp; omega
    go_enter Tryd.func48, Tryd.ntmps48
    go_wp2
    go_ret
    exact ⟨hB, .inr ⟨fun h => h5 h.2.2.2.2, rfl⟩⟩

/-- Who calls may be told. -/
def MayWho (f : Int) (m : ByteArray) (s u g : Int) (gl : Nat) : Prop := (f = 0 ∧ Nob m s u g gl) ∨ (f = 1 ∧ m.size ≤ 255 ∧ gl ≤ 16)

structure CallOk (x p v c f : Int) (m : ByteArray) (s u g : Int) (ga : Option Addr) (gl gc : Nat) (ba : Option Addr) (bl bc : Nat) (gs bs : List Int) (w : World) : Prop where
  hx : 0 ≤ x ∧ x ≤ 4294967295
  hp : 0 ≤ p ∧ p ≤ 4294967295
  hv : 0 ≤ v ∧ v ≤ 4294967295
  hc : 0 ≤ c ∧ c ≤ 4294967295
  hf : 0 ≤ f ∧ f ≤ 4294967295
  hm : m.size ≤ 140737488351232
  hs : 0 ≤ s ∧ s ≤ 4294967295
  hu : 0 ≤ u ∧ u ≤ 4294967295
  hg : 0 ≤ g ∧ g ≤ 4294967295
  glc : gl ≤ gc
  gcm : gl ≤ 140737488351232
  gz : gs.length = gl
  gu : U32s gs
  gseg : Seg4 w ga gs
  blc : bl ≤ bc
  bcm : bl ≤ 140737488351232
  bz : bs.length = bl
  bb : Byt bs
  bseg : Seg w ba bs
  bnil : ba = none → bl = 0 ∧ bc = 0

theorem CallOk.below {x p v c f : Int} {m : ByteArray} {s u g : Int} {ga : Option Addr} {gl gc : Nat} {ba : Option Addr} {bl bc : Nat} {gs bs : List Int} {w w' : World} (h : CallOk x p v c f m s u g ga gl gc ba bl bc gs bs w) (hb : Below w.heap.size w w') : CallOk x p v c f m s u g ga gl gc ba bl bc gs bs w' :=
  { h with gseg := h.gseg.below hb, bseg := h.bseg.below hb }
theorem CallOk.cr {x p v c f : Int} {m : ByteArray} {s u g : Int} {ga : Option Addr} {gl gc : Nat} {ba : Option Addr} {bl bc : Nat} {gs bs : List Int} {w : World} (h : CallOk x p v c f m s u g ga gl gc ba bl bc gs bs w) (h1 : m.size ≤ 255) (h2 : gl ≤ 16) : CrOk s (tz m) u g gs :=
  ⟨h.hs, h.hu, h.hg, fun y hy => by
    obtain ⟨i, hi, rfl⟩ := List.getElem_of_mem hy
    have := h.gu i
    rwa [List.getElem?_eq_getElem hi, Option.getD_some] at this, by rw [tz_len]; omega, by rw [h.gz]; omega⟩
theorem CallOk.num {x p v c f : Int} {m : ByteArray} {s u g : Int} {ga : Option Addr} {gl gc : Nat} {ba : Option Addr} {bl bc : Nat} {gs bs : List Int} {w : World} (h : CallOk x p v c f m s u g ga gl gc ba bl bc gs bs w) : NumOk x p v c := ⟨h.hx, h.hp, h.hv, h.hc⟩
theorem CallOk.who {x p v c f : Int} {m : ByteArray} {s u g : Int} {ga : Option Addr} {gl gc : Nat} {ba : Option Addr} {bl bc : Nat} {gs bs : List Int} {w : World} (h : CallOk x p v c f m s u g ga gl gc ba bl bc gs bs w) (hm : MayWho f m s u g gl) : WhoOk f s (tz m) u g gs := by
  rcases hm with ⟨rfl, h1, rfl, rfl, rfl, h5⟩ | ⟨rfl, h1, h2⟩
  · exact ⟨.inl ⟨rfl, rfl, List.length_eq_zero_iff.1 (by rw [tz_len]; exact h1), rfl, rfl, List.length_eq_zero_iff.1 (by rw [h.gz]; exact h5)⟩⟩
  · exact ⟨.inr ⟨rfl, h.cr h1 h2⟩⟩

set_option maxHeartbeats 1000000 in
theorem putwho_any (x p v c f : Int) (m : ByteArray) (s u g : Int) (ga : Option Addr) (gl gc : Nat) (ba : Option Addr) (bl bc : Nat) (gs bs : List Int) (w : World) (h : CallOk x p v c f m s u g ga gl gc ba bl bc gs bs w) :
    Calls Tryd.prog 15 #[.agg #[.int .u32 x, .int .u32 p, .int .u32 v, .int .u32 c, .int .u32 f, .string m, .int .u32 s, .int .u32 u, .int .u32 g, .slice ga gl gc, .slice ba bl bc]] w fun e w' => Below w.heap.size w w' ∧ ((MayWho f m s u g gl ∧ ∃ vw, e = .returned (.tuple #[vw, .int .i64 0]) ∧ w'.ownsRow w.heap.size 5 1 vw (whoB f s (tz m) u g gs).length ((whoB f s (tz m) u g gs).map (Value.int .u8))) ∨
      (¬ MayWho f m s u g gl ∧ e = .returned (.tuple #[.slice none 0 0, .int .i64 1]))) := by
  have hB : Below w.heap.size w (w.alloc (.cells #[.int .u32 x, .int .u32 p, .int .u32 v, .int .u32 c, .int .u32 f, .string m, .int .u32 s, .int .u32 u, .int .u32 g, .slice ga gl gc, .slice ba bl bc] 28)) := (Below.refl _ _).alloc (Nat.le_refl _) _
  have hgl : gl ≤ 9223372036854775807 := by have := h.glc; have := h.gcm; omega
  have hO := h.below hB
  by_cases h1 : f = 1
  · subst h1
    go_enter Tryd.func15, Tryd.ntmps15
    go_wp2_with fail
    by_cases hno : 255 < m.size ∨ 16 < gl
    · refine (cput_no s m u g ga gl gc _ (by have := h.hm; omega) hgl hno).mono ?_
      rintro e w1 ⟨rfl, hb1⟩
      go_wp2
      go_ret2
      refine ⟨hB.trans (hb1.mono hB.size), .inr ⟨?_, rfl⟩⟩
      rintro (⟨h0, _⟩ | ⟨_, h1, h2⟩)
      · omega
      · omega
    · refine (cput_yes s m u g ga gl gc gs _ (by omega) (by omega) h.hs h.hu h.hg h.gz h.gu hO.gseg).mono ?_
      rintro e w1 ⟨v1, rfl, ho1, hb1⟩
      go_wp2
      go_ret2
      exact ⟨hB.trans (hb1.mono hB.size), .inl ⟨.inr ⟨rfl, by omega, by omega⟩, _, rfl, own_base ho1 hB.size⟩⟩
  · have h1' : (f == 1) = false := by simpa using h1
    by_cases h0 : f = 0
    · subst h0
      go_enter Tryd.func15, Tryd.ntmps15
      go_wp2_with fail
      refine (nobody_any x p v c 0 m s u g ga gl gc ba bl bc _ hgl).mono ?_
      rintro e w1 ⟨hb1, ⟨hn, rfl⟩ | ⟨hn, rfl⟩⟩
      · go_wp2
        go_ret2
        exact ⟨hB.trans (hb1.mono hB.size), .inl ⟨.inl ⟨rfl, hn⟩, _, rfl, World.ownsRow_nil _ _ _ _⟩⟩
      · go_wp2
        go_ret2
        refine ⟨hB.trans (hb1.mono hB.size), .inr ⟨?_, rfl⟩⟩
        rintro (⟨_, h⟩ | ⟨h, _⟩)
        · exact hn h
        · omega
    · have h0' : (f == 0) = false := by simpa using h0
      go_enter Tryd.func15, Tryd.ntmps15
      go_wp2
      go_ret2
      refine ⟨hB, .inr ⟨?_, rfl⟩⟩
      rintro (⟨h, _⟩ | ⟨h, _⟩)
      · exact h0 h
      · exact h1 h
end Go.Proofs.YtciinabhelfnoaaDoor
