/- 'Get' of a call: the walk. -/
import Derived.Test.YtciinabhelfnoaaGreatDoorCallWhoM
import Derived.Test.YtciinabhelfnoaaGreatDoorCredCellsCallCellsSameClM
import Derived.ScopeJumps
namespace Go.Proofs.YtciinabhelfnoaaGreatDoor
set_option linter.unusedVariables false
open Go.RowKit

/-- What 'Get' answers. -/
def clPost (w : World) (zs : List Int) (e : Ending) (W' : World) : Prop :=
  Below w.heap.size w W' ∧ ((clE zs ≠ 0 ∧ e = .returned (.tuple #[.agg #[.int .u32 0, .int .u32 0, .int .u32 0, .int .u32 0, .int .u32 0, .string ⟨#[]⟩, .int .u32 0, .int .u32 0, .int .u32 0, .slice none 0 0, .slice none 0 0], .int .i64 (clE zs)])) ∨
    (clE zs = 0 ∧ ∃ ga gc ba bc, e = .returned (.tuple #[.agg #[.int .u32 (clX zs), .int .u32 (clP zs), .int .u32 (clV zs), .int .u32 (clC zs), .int .u32 (clF zs), .string (strOfNums (clM zs)), .int .u32 (clS zs), .int .u32 (clU zs), .int .u32 (clG zs), .slice ga (clL zs).length gc, .slice ba (clB zs).length bc], .int .i64 0]) ∧
      W'.ownsRow w.heap.size 24 1 (.slice ga (clL zs).length gc) (clL zs).length ((clL zs).map (Value.int .u32)) ∧ W'.ownsRow w.heap.size 5 1 (.slice ba (clB zs).length bc) (clB zs).length ((clB zs).map (Value.int .u8))))

/-- What stands in the slots at the label. -/
def RefusedAt (w : World) (zs : List Int) (a' : Act) (w' : World) : Prop :=
  ∃ er : Int, er = clE zs ∧ er ≠ 0 ∧ Below w.heap.size w w' ∧ w'.heap[w.heap.size]? = some (.cells #[.int .u32 0, .int .u32 0, .int .u32 0, .int .u32 0, .int .u32 0, .string ⟨#[]⟩, .int .u32 0, .int .u32 0, .int .u32 0, .slice none 0 0, .slice none 0 0] 29) ∧ ∃ u0 u1 u3 u5 u6 u7 u8 u9 u10 u11 u12 u13 u14 u15 u16 u17 u18 u19 u20 u21 u22 u23 u24 u25 u26 u27 u28 u29 u30 u31 u32 u33 u34 u35 u36 u37 u38 : Value, a' = { tmps := #[u0, u1, .pointer (some ⟨w.heap.size, 0, none⟩), u3, .int .i64 er, u5, u6, u7, u8, u9, u10, u11, u12, u13, u14, u15, u16, u17, u18, u19, u20, u21, u22, u23, u24, u25, u26, u27, u28, u29, u30, u31, u32, u33, u34, u35, u36, u37, u38], defers := [] }

theorem store_fn {P : Program} {w : World} {a : Addr} {m : Mode} (fn : Fn) (first captured : Array Value) : (store a (.func fn first captured) m).run P w = stored P w a (.func fn first captured) m := run_store P w a _ m rfl
attribute [local go_sem] store_fn

theorem call_set {W : World} {h : Nat} {x0 x1 x2 x3 x4 x5 x6 x7 x8 x9 x10 : Value} {t : TypeId} (hh : W.heap[h]? = some (.cells #[x0, x1, x2, x3, x4, x5, x6, x7, x8, x9, x10] t)) (y0 y1 y2 y3 y4 y5 y6 y7 y8 y9 y10 : Value) :
    (((((((((((W.setCell ⟨h, 0, none⟩ y0).setCell ⟨h, 1, none⟩ y1).setCell ⟨h, 2, none⟩ y2).setCell ⟨h, 3, none⟩ y3).setCell ⟨h, 4, none⟩ y4).setCell ⟨h, 5, none⟩ y5).setCell ⟨h, 6, none⟩ y6).setCell ⟨h, 7, none⟩ y7).setCell ⟨h, 8, none⟩ y8).setCell ⟨h, 9, none⟩ y9).setCell ⟨h, 10, none⟩ y10).heap[h]? = some (.cells #[y0, y1, y2, y3, y4, y5, y6, y7, y8, y9, y10] t) := by
  have h0 : (W.setCell ⟨h, 0, none⟩ y0).heap[h]? = some (.cells #[y0, x1, x2, x3, x4, x5, x6, x7, x8, x9, x10] t) := setCell_same hh y0
  have h1 : ((W.setCell ⟨h, 0, none⟩ y0).setCell ⟨h, 1, none⟩ y1).heap[h]? = some (.cells #[y0, y1, x2, x3, x4, x5, x6, x7, x8, x9, x10] t) := setCell_same h0 y1
  have h2 : (((W.setCell ⟨h, 0, none⟩ y0).setCell ⟨h, 1, none⟩ y1).setCell ⟨h, 2, none⟩ y2).heap[h]? = some (.cells #[y0, y1, y2, x3, x4, x5, x6, x7, x8, x9, x10] t) := setCell_same h1 y2
  have h3 : ((((W.setCell ⟨h, 0, none⟩ y0).setCell ⟨h, 1, none⟩ y1).setCell ⟨h, 2, none⟩ y2).setCell ⟨h, 3, none⟩ y3).heap[h]? = some (.cells #[y0, y1, y2, y3, x4, x5, x6, x7, x8, x9, x10] t) := setCell_same h2 y3
  have h4 : (((((W.setCell ⟨h, 0, none⟩ y0).setCell ⟨h, 1, none⟩ y1).setCell ⟨h, 2, none⟩ y2).setCell ⟨h, 3, none⟩ y3).setCell ⟨h, 4, none⟩ y4).heap[h]? = some (.cells #[y0, y1, y2, y3, y4, x5, x6, x7, x8, x9, x10] t) := setCell_same h3 y4
  have h5 : ((((((W.setCell ⟨h, 0, none⟩ y0).setCell ⟨h, 1, none⟩ y1).setCell ⟨h, 2, none⟩ y2).setCell ⟨h, 3, none⟩ y3).setCell ⟨h, 4, none⟩ y4).setCell ⟨h, 5, none⟩ y5).heap[h]? = some (.cells #[y0, y1, y2, y3, y4, y5, x6, x7, x8, x9, x10] t) := setCell_same h4 y5
  have h6 : (((((((W.setCell ⟨h, 0, none⟩ y0).setCell ⟨h, 1, none⟩ y1).setCell ⟨h, 2, none⟩ y2).setCell ⟨h, 3, none⟩ y3).setCell ⟨h, 4, none⟩ y4).setCell ⟨h, 5, none⟩ y5).setCell ⟨h, 6, none⟩ y6).heap[h]? = some (.cells #[y0, y1, y2, y3, y4, y5, y6, x7, x8, x9, x10] t) := setCell_same h5 y6
  have h7 : ((((((((W.setCell ⟨h, 0, none⟩ y0).setCell ⟨h, 1, none⟩ y1).setCell ⟨h, 2, none⟩ y2).setCell ⟨h, 3, none⟩ y3).setCell ⟨h, 4, none⟩ y4).setCell ⟨h, 5, none⟩ y5).setCell ⟨h, 6, none⟩ y6).setCell ⟨h, 7, none⟩ y7).heap[h]? = some (.cells #[y0, y1, y2, y3, y4, y5, y6, y7, x8, x9, x10] t) := setCell_same h6 y7
  have h8 : (((((((((W.setCell ⟨h, 0, none⟩ y0).setCell ⟨h, 1, none⟩ y1).setCell ⟨h, 2, none⟩ y2).setCell ⟨h, 3, none⟩ y3).setCell ⟨h, 4, none⟩ y4).setCell ⟨h, 5, none⟩ y5).setCell ⟨h, 6, none⟩ y6).setCell ⟨h, 7, none⟩ y7).setCell ⟨h, 8, none⟩ y8).heap[h]? = some (.cells #[y0, y1, y2, y3, y4, y5, y6, y7, y8, x9, x10] t) := setCell_same h7 y8
  have h9 : ((((((((((W.setCell ⟨h, 0, none⟩ y0).setCell ⟨h, 1, none⟩ y1).setCell ⟨h, 2, none⟩ y2).setCell ⟨h, 3, none⟩ y3).setCell ⟨h, 4, none⟩ y4).setCell ⟨h, 5, none⟩ y5).setCell ⟨h, 6, none⟩ y6).setCell ⟨h, 7, none⟩ y7).setCell ⟨h, 8, none⟩ y8).setCell ⟨h, 9, none⟩ y9).heap[h]? = some (.cells #[y0, y1, y2, y3, y4, y5, y6, y7, y8, y9, x10] t) := setCell_same h8 y9
  have h10 : (((((((((((W.setCell ⟨h, 0, none⟩ y0).setCell ⟨h, 1, none⟩ y1).setCell ⟨h, 2, none⟩ y2).setCell ⟨h, 3, none⟩ y3).setCell ⟨h, 4, none⟩ y4).setCell ⟨h, 5, none⟩ y5).setCell ⟨h, 6, none⟩ y6).setCell ⟨h, 7, none⟩ y7).setCell ⟨h, 8, none⟩ y8).setCell ⟨h, 9, none⟩ y9).setCell ⟨h, 10, none⟩ y10).heap[h]? = some (.cells #[y0, y1, y2, y3, y4, y5, y6, y7, y8, y9, y10] t) := setCell_same h9 y10
  exact h10
theorem call_below {B : Nat} {w W : World} {h : Nat} (hb : Below B w W) (hh : B ≤ h) (y0 y1 y2 y3 y4 y5 y6 y7 y8 y9 y10 : Value) : Below B w (((((((((((W.setCell ⟨h, 0, none⟩ y0).setCell ⟨h, 1, none⟩ y1).setCell ⟨h, 2, none⟩ y2).setCell ⟨h, 3, none⟩ y3).setCell ⟨h, 4, none⟩ y4).setCell ⟨h, 5, none⟩ y5).setCell ⟨h, 6, none⟩ y6).setCell ⟨h, 7, none⟩ y7).setCell ⟨h, 8, none⟩ y8).setCell ⟨h, 9, none⟩ y9).setCell ⟨h, 10, none⟩ y10) :=
  ((((((((((hb.setCell hh _).setCell hh _).setCell hh _).setCell hh _).setCell hh _).setCell hh _).setCell hh _).setCell hh _).setCell hh _).setCell hh _).setCell hh _

theorem frozen_at {W : World} {h k : Nat} {xs : Array Value} {t : TypeId} (hc : W.heap[h]? = some (.cells xs t)) : W.frozen? ⟨h, k, none⟩ = false := by simp [World.frozen?, hc]

/-- The reader's box at the start. -/
def rs0 (a : Option Addr) (len cap : Nat) (zs : List Int) : RS := ⟨a, len, cap, zs, 0, 0, 0, 0, 0, ⟨#[]⟩, 0, 0, 0, none, 0, 0, [], none, 0, 0, []⟩
theorem Rt.start (a : Option Addr) (len cap : Nat) (zs : List Int) (w : World) (hlc : len ≤ cap) (hm : cap ≤ 9223372036854775807) (hsm : len ≤ 65536) (hz : zs.length = len) (hb : Byt zs) (hs : Seg w a zs) (hn : a = none → len = 0 ∧ cap = 0) :
    Rt w w.heap.size (rs0 a len cap zs) (w.alloc (.cells #[.slice a len cap, .int .u32 0, .int .u32 0, .int .u32 0, .int .u32 0, .int .u32 0, .string ⟨#[]⟩, .int .u32 0, .int .u32 0, .int .u32 0, .slice none 0 0, .slice none 0 0] 49)) :=
  ⟨(Below.refl _ _).alloc (Nat.le_refl _) _, Nat.le_refl _, heap_alloc_new w _, World.ownsRow_nil _ _ _ _, World.ownsRow_nil _ _ _ _, rfl, rfl, hs, hz, hlc, hm, hsm, hb, hn⟩
theorem At.start (a : Option Addr) (len cap : Nat) (zs : List Int) : At zs 0 (rs0 a len cap zs) :=
  ⟨by show zs = zs.drop (4 * 0); simp, rfl, fun h => absurd h (by omega), fun h => absurd h (by omega), fun h => absurd h (by omega), fun h => absurd h (by omega), fun h => absurd h (by omega), fun h => absurd h (by omega), fun _ => ⟨rfl, rfl, rfl, rfl, rfl⟩, fun h => absurd h (by omega)⟩

set_option maxRecDepth 100000 in
set_option maxHeartbeats 4000000 in
theorem clget_any (a : Option Addr) (len cap : Nat) (zs : List Int) (w : World) (hlc : len ≤ cap) (hm : cap ≤ 9223372036854775807) (hz : zs.length = len) (hb : Byt zs) (hs : Seg w a zs) (hn : a = none → len = 0 ∧ cap = 0) :
    Calls Tryz.prog 5 #[.slice a len cap] w (clPost w zs) := by
  have hB0 : Below w.heap.size w (w.alloc (.cells #[.int .u32 0, .int .u32 0, .int .u32 0, .int .u32 0, .int .u32 0, .string ⟨#[]⟩, .int .u32 0, .int .u32 0, .int .u32 0, .slice none 0 0, .slice none 0 0] 29)) := (Below.refl _ _).alloc (Nat.le_refl _) _
  have hh0 : (w.alloc (.cells #[.int .u32 0, .int .u32 0, .int .u32 0, .int .u32 0, .int .u32 0, .string ⟨#[]⟩, .int .u32 0, .int .u32 0, .int .u32 0, .slice none 0 0, .slice none 0 0] 29)).heap[w.heap.size]? = some (.cells #[.int .u32 0, .int .u32 0, .int .u32 0, .int .u32 0, .int .u32 0, .string ⟨#[]⟩, .int .u32 0, .int .u32 0, .int .u32 0, .slice none 0 0, .slice none 0 0] 29) := heap_alloc_new w _
  have hw0 : (w.alloc (.cells #[.int .u32 0, .int .u32 0, .int .u32 0, .int .u32 0, .int .u32 0, .string ⟨#[]⟩, .int .u32 0, .int .u32 0, .int .u32 0, .slice none 0 0, .slice none 0 0] 29)).heap.size = w.heap.size + 1 := by simp
  have hlm : len ≤ 9223372036854775807 := by omega
  go_enter Tryz.func5, Tryz.ntmps5
  go_wp2
  refine wp_scope_jumps 0 (RefusedAt w zs) (fun _ _ => 0) rfl ?_ ?_
  case refine_2 =>
    clear hB0 hh0 hw0 hs hz hb hn
    rintro a' w' ⟨er, her, hne, hB, hc, u0, u1, u3, u5, u6, u7, u8, u9, u10, u11, u12, u13, u14, u15, u16, u17, u18, u19, u20, u21, u22, u23, u24, u25, u26, u27, u28, u29, u30, u31, u32, u33, u34, u35, u36, u37, u38, rfl⟩
    obtain ⟨c0, c1, c2, c3, c4, c5, c6, c7, c8, c9, c10⟩ := call_at hc
    have fz := fun k => frozen_at (k := k) hc
    have HE : Hid (er = clE zs) := her
    have HN : Hid (er ≠ 0) := hne
    clear her hne
    go_wp2
    have hc' := call_set hc (.int .u32 0) (.int .u32 0) (.int .u32 0) (.int .u32 0) (.int .u32 0) (.string ⟨#[]⟩) (.int .u32 0) (.int .u32 0) (.int .u32 0) (.slice none 0 0) (.slice none 0 0)
    have hB' := call_below (h := w.heap.size) hB (Nat.le_refl _) (.int .u32 0) (.int .u32 0) (.int .u32 0) (.int .u32 0) (.int .u32 0) (.string ⟨#[]⟩) (.int .u32 0) (.int .u32 0) (.int .u32 0) (.slice none 0 0) (.slice none 0 0)
    generalize (((((((((((w'.setCell ⟨w.heap.size, 0, none⟩ (.int .u32 0)).setCell ⟨w.heap.size, 1, none⟩ (.int .u32 0)).setCell ⟨w.heap.size, 2, none⟩ (.int .u32 0)).setCell ⟨w.heap.size, 3, none⟩ (.int .u32 0)).setCell ⟨w.heap.size, 4, none⟩ (.int .u32 0)).setCell ⟨w.heap.size, 5, none⟩ (.string ⟨#[]⟩)).setCell ⟨w.heap.size, 6, none⟩ (.int .u32 0)).setCell ⟨w.heap.size, 7, none⟩ (.int .u32 0)).setCell ⟨w.heap.size, 8, none⟩ (.int .u32 0)).setCell ⟨w.heap.size, 9, none⟩ (.slice none 0 0)).setCell ⟨w.heap.size, 10, none⟩ (.slice none 0 0)) = w1 at *
    clear c0 c1 c2 c3 c4 c5 c6 c7 c8 c9 c10 fz hc hB
    obtain ⟨c0, c1, c2, c3, c4, c5, c6, c7, c8, c9, c10⟩ := call_at hc'
    rw [jump_ret]
    refine bodyPost_ret (v := .tuple #[.agg #[.int .u32 0, .int .u32 0, .int .u32 0, .int .u32 0, .int .u32 0, .string ⟨#[]⟩, .int .u32 0, .int .u32 0, .int .u32 0, .slice none 0 0, .slice none 0 0], .int .i64 er]) (by simp [results, Tryz.results5, go_sem, c0, c1, c2, c3, c4, c5, c6, c7, c8, c9, c10]) rfl ?_
    exact ⟨hB', .inl ⟨by rw [← HE.out]; exact HN.out, by rw [HE.out]⟩⟩
  case refine_1 =>
    have hcl : 65536 < len → clE zs = 3 := fun h => by rw [clE, if_pos (by omega)]
    have hcs : ¬ 65536 < len → clE zs = firstE (clEs zs) := fun h => by rw [clE, if_neg (by omega)]
    generalize w.alloc (.cells #[.int .u32 0, .int .u32 0, .int .u32 0, .int .u32 0, .int .u32 0, .string ⟨#[]⟩, .int .u32 0, .int .u32 0, .int .u32 0, .slice none 0 0, .slice none 0 0] 29) = w0 at *
    have hlt : w.heap.size < w0.heap.size := by omega
    by_cases hbig : 65536 < len
    · have hx : (65536 : Int) < len := by omega
      have H3 : Hid (clE zs = 3) := hcl hbig
      have hB1 : Below w0.heap.size w0 (w0.alloc (.cells #[.slice a len cap, .int .u32 0, .int .u32 0, .int .u32 0, .int .u32 0, .int .u32 0, .string ⟨#[]⟩, .int .u32 0, .int .u32 0, .int .u32 0, .slice none 0 0, .slice none 0 0] 49)) := (Below.refl _ _).alloc (Nat.le_refl _) _
      clear hcl hcs
      go_wp2
      go_step3
      have hB2 := hB1.alloc hB1.size (.cells #[.func (.func 12) #[.pointer (some ⟨w.heap.size + 1, 0, none⟩)] #[], .func (.func 13) #[.pointer (some ⟨w.heap.size + 1, 0, none⟩)] #[], .func (.func 14) #[.pointer (some ⟨w.heap.size + 1, 0, none⟩)] #[], .func (.func 15) #[.pointer (some ⟨w.heap.size + 1, 0, none⟩)] #[], .func (.func 16) #[.pointer (some ⟨w.heap.size + 1, 0, none⟩)] #[], .func (.func 17) #[.pointer (some ⟨w.heap.size + 1, 0, none⟩)] #[], .func (.func 18) #[.pointer (some ⟨w.heap.size + 1, 0, none⟩)] #[], .func (.func 19) #[.pointer (some ⟨w.heap.size + 1, 0, none⟩)] #[], .func (.func 20) #[.pointer (some ⟨w.heap.size + 1, 0, none⟩)] #[], .func (.func 21) #[.pointer (some ⟨w.heap.size + 1, 0, none⟩)] #[], .func (.func 22) #[.pointer (some ⟨w.heap.size + 1, 0, none⟩)] #[]] 51)
      exact ⟨rfl, 3, H3.out.symm, by decide, hB0.trans (hB2.mono hB0.size), (hB2.block _ hlt).trans hh0, _, _, _, _, _, _, _, _, _, _, _, _, _, _, _, _, _, _, _, _, _, _, _, _, _, _, _, _, _, _, _, _, _, _, _, _, _, rfl⟩
    · have hx : ¬ (65536 : Int) < len := by omega
      have HC : Hid (clE zs = firstE (clEs zs)) := hcs hbig
      have R := (Rt.start a len cap zs w0 hlc hm (by omega) hz hb (hs.below hB0) hn)
      rw [hw0] at R
      have A := At.start a len cap zs
      generalize rs0 a len cap zs = y0 at R A
      have hBk := R.next ((Below.refl _ _).alloc (Nat.le_refl _) (.cells #[.func (.func 12) #[.pointer (some ⟨w.heap.size + 1, 0, none⟩)] #[], .func (.func 13) #[.pointer (some ⟨w.heap.size + 1, 0, none⟩)] #[], .func (.func 14) #[.pointer (some ⟨w.heap.size + 1, 0, none⟩)] #[], .func (.func 15) #[.pointer (some ⟨w.heap.size + 1, 0, none⟩)] #[], .func (.func 16) #[.pointer (some ⟨w.heap.size + 1, 0, none⟩)] #[], .func (.func 17) #[.pointer (some ⟨w.heap.size + 1, 0, none⟩)] #[], .func (.func 18) #[.pointer (some ⟨w.heap.size + 1, 0, none⟩)] #[], .func (.func 19) #[.pointer (some ⟨w.heap.size + 1, 0, none⟩)] #[], .func (.func 20) #[.pointer (some ⟨w.heap.size + 1, 0, none⟩)] #[], .func (.func 21) #[.pointer (some ⟨w.heap.size + 1, 0, none⟩)] #[], .func (.func 22) #[.pointer (some ⟨w.heap.size + 1, 0, none⟩)] #[]] 51))
      clear hcl hcs R hs hz hb hn
      go_wp2_with fail
      generalize ((w0.alloc (.cells #[.slice a len cap, .int .u32 0, .int .u32 0, .int .u32 0, .int .u32 0, .int .u32 0, .string ⟨#[]⟩, .int .u32 0, .int .u32 0, .int .u32 0, .slice none 0 0, .slice none 0 0] 49)).alloc (.cells #[.func (.func 12) #[.pointer (some ⟨w.heap.size + 1, 0, none⟩)] #[], .func (.func 13) #[.pointer (some ⟨w.heap.size + 1, 0, none⟩)] #[], .func (.func 14) #[.pointer (some ⟨w.heap.size + 1, 0, none⟩)] #[], .func (.func 15) #[.pointer (some ⟨w.heap.size + 1, 0, none⟩)] #[], .func (.func 16) #[.pointer (some ⟨w.heap.size + 1, 0, none⟩)] #[], .func (.func 17) #[.pointer (some ⟨w.heap.size + 1, 0, none⟩)] #[], .func (.func 18) #[.pointer (some ⟨w.heap.size + 1, 0, none⟩)] #[], .func (.func 19) #[.pointer (some ⟨w.heap.size + 1, 0, none⟩)] #[], .func (.func 20) #[.pointer (some ⟨w.heap.size + 1, 0, none⟩)] #[], .func (.func 21) #[.pointer (some ⟨w.heap.size + 1, 0, none⟩)] #[], .func (.func 22) #[.pointer (some ⟨w.heap.size + 1, 0, none⟩)] #[]] 51)) = W0 at *
      have hix0 : ∀ W : World, (Instr.index 51 (.agg #[.func (.func 12) #[.pointer (some ⟨w.heap.size + 1, 0, none⟩)] #[], .func (.func 13) #[.pointer (some ⟨w.heap.size + 1, 0, none⟩)] #[], .func (.func 14) #[.pointer (some ⟨w.heap.size + 1, 0, none⟩)] #[], .func (.func 15) #[.pointer (some ⟨w.heap.size + 1, 0, none⟩)] #[], .func (.func 16) #[.pointer (some ⟨w.heap.size + 1, 0, none⟩)] #[], .func (.func 17) #[.pointer (some ⟨w.heap.size + 1, 0, none⟩)] #[], .func (.func 18) #[.pointer (some ⟨w.heap.size + 1, 0, none⟩)] #[], .func (.func 19) #[.pointer (some ⟨w.heap.size + 1, 0, none⟩)] #[], .func (.func 20) #[.pointer (some ⟨w.heap.size + 1, 0, none⟩)] #[], .func (.func 21) #[.pointer (some ⟨w.heap.size + 1, 0, none⟩)] #[], .func (.func 22) #[.pointer (some ⟨w.heap.size + 1, 0, none⟩)] #[]]) (.int .i64 0)).run Tryz.prog W = .ok (.func (.func 12) #[.pointer (some ⟨w.heap.size + 1, 0, none⟩)] #[]) W := fun _ => rfl
      have hix1 : ∀ W : World, (Instr.index 51 (.agg #[.func (.func 12) #[.pointer (some ⟨w.heap.size + 1, 0, none⟩)] #[], .func (.func 13) #[.pointer (some ⟨w.heap.size + 1, 0, none⟩)] #[], .func (.func 14) #[.pointer (some ⟨w.heap.size + 1, 0, none⟩)] #[], .func (.func 15) #[.pointer (some ⟨w.heap.size + 1, 0, none⟩)] #[], .func (.func 16) #[.pointer (some ⟨w.heap.size + 1, 0, none⟩)] #[], .func (.func 17) #[.pointer (some ⟨w.heap.size + 1, 0, none⟩)] #[], .func (.func 18) #[.pointer (some ⟨w.heap.size + 1, 0, none⟩)] #[], .func (.func 19) #[.pointer (some ⟨w.heap.size + 1, 0, none⟩)] #[], .func (.func 20) #[.pointer (some ⟨w.heap.size + 1, 0, none⟩)] #[], .func (.func 21) #[.pointer (some ⟨w.heap.size + 1, 0, none⟩)] #[], .func (.func 22) #[.pointer (some ⟨w.heap.size + 1, 0, none⟩)] #[]]) (.int .i64 1)).run Tryz.prog W = .ok (.func (.func 13) #[.pointer (some ⟨w.heap.size + 1, 0, none⟩)] #[]) W := fun _ => rfl
      have hix2 : ∀ W : World, (Instr.index 51 (.agg #[.func (.func 12) #[.pointer (some ⟨w.heap.size + 1, 0, none⟩)] #[], .func (.func 13) #[.pointer (some ⟨w.heap.size + 1, 0, none⟩)] #[], .func (.func 14) #[.pointer (some ⟨w.heap.size + 1, 0, none⟩)] #[], .func (.func 15) #[.pointer (some ⟨w.heap.size + 1, 0, none⟩)] #[], .func (.func 16) #[.pointer (some ⟨w.heap.size + 1, 0, none⟩)] #[], .func (.func 17) #[.pointer (some ⟨w.heap.size + 1, 0, none⟩)] #[], .func (.func 18) #[.pointer (some ⟨w.heap.size + 1, 0, none⟩)] #[], .func (.func 19) #[.pointer (some ⟨w.heap.size + 1, 0, none⟩)] #[], .func (.func 20) #[.pointer (some ⟨w.heap.size + 1, 0, none⟩)] #[], .func (.func 21) #[.pointer (some ⟨w.heap.size + 1, 0, none⟩)] #[], .func (.func 22) #[.pointer (some ⟨w.heap.size + 1, 0, none⟩)] #[]]) (.int .i64 2)).run Tryz.prog W = .ok (.func (.func 14) #[.pointer (some ⟨w.heap.size + 1, 0, none⟩)] #[]) W := fun _ => rfl
      have hix3 : ∀ W : World, (Instr.index 51 (.agg #[.func (.func 12) #[.pointer (some ⟨w.heap.size + 1, 0, none⟩)] #[], .func (.func 13) #[.pointer (some ⟨w.heap.size + 1, 0, none⟩)] #[], .func (.func 14) #[.pointer (some ⟨w.heap.size + 1, 0, none⟩)] #[], .func (.func 15) #[.pointer (some ⟨w.heap.size + 1, 0, none⟩)] #[], .func (.func 16) #[.pointer (some ⟨w.heap.size + 1, 0, none⟩)] #[], .func (.func 17) #[.pointer (some ⟨w.heap.size + 1, 0, none⟩)] #[], .func (.func 18) #[.pointer (some ⟨w.heap.size + 1, 0, none⟩)] #[], .func (.func 19) #[.pointer (some ⟨w.heap.size + 1, 0, none⟩)] #[], .func (.func 20) #[.pointer (some ⟨w.heap.size + 1, 0, none⟩)] #[], .func (.func 21) #[.pointer (some ⟨w.heap.size + 1, 0, none⟩)] #[], .func (.func 22) #[.pointer (some ⟨w.heap.size + 1, 0, none⟩)] #[]]) (.int .i64 3)).run Tryz.prog W = .ok (.func (.func 15) #[.pointer (some ⟨w.heap.size + 1, 0, none⟩)] #[]) W := fun _ => rfl
      have hix4 : ∀ W : World, (Instr.index 51 (.agg #[.func (.func 12) #[.pointer (some ⟨w.heap.size + 1, 0, none⟩)] #[], .func (.func 13) #[.pointer (some ⟨w.heap.size + 1, 0, none⟩)] #[], .func (.func 14) #[.pointer (some ⟨w.heap.size + 1, 0, none⟩)] #[], .func (.func 15) #[.pointer (some ⟨w.heap.size + 1, 0, none⟩)] #[], .func (.func 16) #[.pointer (some ⟨w.heap.size + 1, 0, none⟩)] #[], .func (.func 17) #[.pointer (some ⟨w.heap.size + 1, 0, none⟩)] #[], .func (.func 18) #[.pointer (some ⟨w.heap.size + 1, 0, none⟩)] #[], .func (.func 19) #[.pointer (some ⟨w.heap.size + 1, 0, none⟩)] #[], .func (.func 20) #[.pointer (some ⟨w.heap.size + 1, 0, none⟩)] #[], .func (.func 21) #[.pointer (some ⟨w.heap.size + 1, 0, none⟩)] #[], .func (.func 22) #[.pointer (some ⟨w.heap.size + 1, 0, none⟩)] #[]]) (.int .i64 4)).run Tryz.prog W = .ok (.func (.func 16) #[.pointer (some ⟨w.heap.size + 1, 0, none⟩)] #[]) W := fun _ => rfl
      have hix5 : ∀ W : World, (Instr.index 51 (.agg #[.func (.func 12) #[.pointer (some ⟨w.heap.size + 1, 0, none⟩)] #[], .func (.func 13) #[.pointer (some ⟨w.heap.size + 1, 0, none⟩)] #[], .func (.func 14) #[.pointer (some ⟨w.heap.size + 1, 0, none⟩)] #[], .func (.func 15) #[.pointer (some ⟨w.heap.size + 1, 0, none⟩)] #[], .func (.func 16) #[.pointer (some ⟨w.heap.size + 1, 0, none⟩)] #[], .func (.func 17) #[.pointer (some ⟨w.heap.size + 1, 0, none⟩)] #[], .func (.func 18) #[.pointer (some ⟨w.heap.size + 1, 0, none⟩)] #[], .func (.func 19) #[.pointer (some ⟨w.heap.size + 1, 0, none⟩)] #[], .func (.func 20) #[.pointer (some ⟨w.heap.size + 1, 0, none⟩)] #[], .func (.func 21) #[.pointer (some ⟨w.heap.size + 1, 0, none⟩)] #[], .func (.func 22) #[.pointer (some ⟨w.heap.size + 1, 0, none⟩)] #[]]) (.int .i64 5)).run Tryz.prog W = .ok (.func (.func 17) #[.pointer (some ⟨w.heap.size + 1, 0, none⟩)] #[]) W := fun _ => rfl
      have hix6 : ∀ W : World, (Instr.index 51 (.agg #[.func (.func 12) #[.pointer (some ⟨w.heap.size + 1, 0, none⟩)] #[], .func (.func 13) #[.pointer (some ⟨w.heap.size + 1, 0, none⟩)] #[], .func (.func 14) #[.pointer (some ⟨w.heap.size + 1, 0, none⟩)] #[], .func (.func 15) #[.pointer (some ⟨w.heap.size + 1, 0, none⟩)] #[], .func (.func 16) #[.pointer (some ⟨w.heap.size + 1, 0, none⟩)] #[], .func (.func 17) #[.pointer (some ⟨w.heap.size + 1, 0, none⟩)] #[], .func (.func 18) #[.pointer (some ⟨w.heap.size + 1, 0, none⟩)] #[], .func (.func 19) #[.pointer (some ⟨w.heap.size + 1, 0, none⟩)] #[], .func (.func 20) #[.pointer (some ⟨w.heap.size + 1, 0, none⟩)] #[], .func (.func 21) #[.pointer (some ⟨w.heap.size + 1, 0, none⟩)] #[], .func (.func 22) #[.pointer (some ⟨w.heap.size + 1, 0, none⟩)] #[]]) (.int .i64 6)).run Tryz.prog W = .ok (.func (.func 18) #[.pointer (some ⟨w.heap.size + 1, 0, none⟩)] #[]) W := fun _ => rfl
      have hix7 : ∀ W : World, (Instr.index 51 (.agg #[.func (.func 12) #[.pointer (some ⟨w.heap.size + 1, 0, none⟩)] #[], .func (.func 13) #[.pointer (some ⟨w.heap.size + 1, 0, none⟩)] #[], .func (.func 14) #[.pointer (some ⟨w.heap.size + 1, 0, none⟩)] #[], .func (.func 15) #[.pointer (some ⟨w.heap.size + 1, 0, none⟩)] #[], .func (.func 16) #[.pointer (some ⟨w.heap.size + 1, 0, none⟩)] #[], .func (.func 17) #[.pointer (some ⟨w.heap.size + 1, 0, none⟩)] #[], .func (.func 18) #[.pointer (some ⟨w.heap.size + 1, 0, none⟩)] #[], .func (.func 19) #[.pointer (some ⟨w.heap.size + 1, 0, none⟩)] #[], .func (.func 20) #[.pointer (some ⟨w.heap.size + 1, 0, none⟩)] #[], .func (.func 21) #[.pointer (some ⟨w.heap.size + 1, 0, none⟩)] #[], .func (.func 22) #[.pointer (some ⟨w.heap.size + 1, 0, none⟩)] #[]]) (.int .i64 7)).run Tryz.prog W = .ok (.func (.func 19) #[.pointer (some ⟨w.heap.size + 1, 0, none⟩)] #[]) W := fun _ => rfl
      have hix8 : ∀ W : World, (Instr.index 51 (.agg #[.func (.func 12) #[.pointer (some ⟨w.heap.size + 1, 0, none⟩)] #[], .func (.func 13) #[.pointer (some ⟨w.heap.size + 1, 0, none⟩)] #[], .func (.func 14) #[.pointer (some ⟨w.heap.size + 1, 0, none⟩)] #[], .func (.func 15) #[.pointer (some ⟨w.heap.size + 1, 0, none⟩)] #[], .func (.func 16) #[.pointer (some ⟨w.heap.size + 1, 0, none⟩)] #[], .func (.func 17) #[.pointer (some ⟨w.heap.size + 1, 0, none⟩)] #[], .func (.func 18) #[.pointer (some ⟨w.heap.size + 1, 0, none⟩)] #[], .func (.func 19) #[.pointer (some ⟨w.heap.size + 1, 0, none⟩)] #[], .func (.func 20) #[.pointer (some ⟨w.heap.size + 1, 0, none⟩)] #[], .func (.func 21) #[.pointer (some ⟨w.heap.size + 1, 0, none⟩)] #[], .func (.func 22) #[.pointer (some ⟨w.heap.size + 1, 0, none⟩)] #[]]) (.int .i64 8)).run Tryz.prog W = .ok (.func (.func 20) #[.pointer (some ⟨w.heap.size + 1, 0, none⟩)] #[]) W := fun _ => rfl
      have hix9 : ∀ W : World, (Instr.index 51 (.agg #[.func (.func 12) #[.pointer (some ⟨w.heap.size + 1, 0, none⟩)] #[], .func (.func 13) #[.pointer (some ⟨w.heap.size + 1, 0, none⟩)] #[], .func (.func 14) #[.pointer (some ⟨w.heap.size + 1, 0, none⟩)] #[], .func (.func 15) #[.pointer (some ⟨w.heap.size + 1, 0, none⟩)] #[], .func (.func 16) #[.pointer (some ⟨w.heap.size + 1, 0, none⟩)] #[], .func (.func 17) #[.pointer (some ⟨w.heap.size + 1, 0, none⟩)] #[], .func (.func 18) #[.pointer (some ⟨w.heap.size + 1, 0, none⟩)] #[], .func (.func 19) #[.pointer (some ⟨w.heap.size + 1, 0, none⟩)] #[], .func (.func 20) #[.pointer (some ⟨w.heap.size + 1, 0, none⟩)] #[], .func (.func 21) #[.pointer (some ⟨w.heap.size + 1, 0, none⟩)] #[], .func (.func 22) #[.pointer (some ⟨w.heap.size + 1, 0, none⟩)] #[]]) (.int .i64 9)).run Tryz.prog W = .ok (.func (.func 21) #[.pointer (some ⟨w.heap.size + 1, 0, none⟩)] #[]) W := fun _ => rfl
      have hix10 : ∀ W : World, (Instr.index 51 (.agg #[.func (.func 12) #[.pointer (some ⟨w.heap.size + 1, 0, none⟩)] #[], .func (.func 13) #[.pointer (some ⟨w.heap.size + 1, 0, none⟩)] #[], .func (.func 14) #[.pointer (some ⟨w.heap.size + 1, 0, none⟩)] #[], .func (.func 15) #[.pointer (some ⟨w.heap.size + 1, 0, none⟩)] #[], .func (.func 16) #[.pointer (some ⟨w.heap.size + 1, 0, none⟩)] #[], .func (.func 17) #[.pointer (some ⟨w.heap.size + 1, 0, none⟩)] #[], .func (.func 18) #[.pointer (some ⟨w.heap.size + 1, 0, none⟩)] #[], .func (.func 19) #[.pointer (some ⟨w.heap.size + 1, 0, none⟩)] #[], .func (.func 20) #[.pointer (some ⟨w.heap.size + 1, 0, none⟩)] #[], .func (.func 21) #[.pointer (some ⟨w.heap.size + 1, 0, none⟩)] #[], .func (.func 22) #[.pointer (some ⟨w.heap.size + 1, 0, none⟩)] #[]]) (.int .i64 10)).run Tryz.prog W = .ok (.func (.func 22) #[.pointer (some ⟨w.heap.size + 1, 0, none⟩)] #[]) W := fun _ => rfl
      generalize (Value.agg #[.func (.func 12) #[.pointer (some ⟨w.heap.size + 1, 0, none⟩)] #[], .func (.func 13) #[.pointer (some ⟨w.heap.size + 1, 0, none⟩)] #[], .func (.func 14) #[.pointer (some ⟨w.heap.size + 1, 0, none⟩)] #[], .func (.func 15) #[.pointer (some ⟨w.heap.size + 1, 0, none⟩)] #[], .func (.func 16) #[.pointer (some ⟨w.heap.size + 1, 0, none⟩)] #[], .func (.func 17) #[.pointer (some ⟨w.heap.size + 1, 0, none⟩)] #[], .func (.func 18) #[.pointer (some ⟨w.heap.size + 1, 0, none⟩)] #[], .func (.func 19) #[.pointer (some ⟨w.heap.size + 1, 0, none⟩)] #[], .func (.func 20) #[.pointer (some ⟨w.heap.size + 1, 0, none⟩)] #[], .func (.func 21) #[.pointer (some ⟨w.heap.size + 1, 0, none⟩)] #[], .func (.func 22) #[.pointer (some ⟨w.heap.size + 1, 0, none⟩)] #[]]) = V at *
      refine wp_loop_rounds 12 ?_
      rw [rounds_succ]
      go_wp2_with fail
      refine (step_xid hBk A).mono ?_
      clear hBk A
      rintro e W1 ⟨er, rfl, ⟨hne, her, hB⟩ | ⟨h0, y1, R, A⟩⟩
      · have hxe : (er != 0) = true := by simp [hne]
        have HN : Hid (er ≠ 0) := hne
        have HE : Hid (er = clE zs) := her.trans HC.out.symm
        clear hne her
        go_wp2_with fail
        go_step3
        exact ⟨rfl, er, HE.out, HN.out, hB0.trans (hB.mono hB0.size), (hB.block _ hlt).trans hh0, _, _, _, _, _, _, _, _, _, _, _, _, _, _, _, _, _, _, _, _, _, _, _, _, _, _, _, _, _, _, _, _, _, _, _, _, _, rfl⟩
      subst h0
      go_wp2_with fail
      rw [rounds_succ]
      go_wp2_with fail
      refine (step_kind R A).mono ?_
      clear R A
      rintro e W2 ⟨er, rfl, ⟨hne, her, hB⟩ | ⟨h0, y2, R, A⟩⟩
      · have hxe : (er != 0) = true := by simp [hne]
        have HN : Hid (er ≠ 0) := hne
        have HE : Hid (er = clE zs) := her.trans HC.out.symm
        clear hne her
        go_wp2_with fail
        go_step3
        exact ⟨rfl, er, HE.out, HN.out, hB0.trans (hB.mono hB0.size), (hB.block _ hlt).trans hh0, _, _, _, _, _, _, _, _, _, _, _, _, _, _, _, _, _, _, _, _, _, _, _, _, _, _, _, _, _, _, _, _, _, _, _, _, _, rfl⟩
      subst h0
      go_wp2_with fail
      rw [rounds_succ]
      go_wp2_with fail
      refine (step_form R A).mono ?_
      clear R A
      rintro e W3 ⟨er, rfl, ⟨hne, her, hB⟩ | ⟨h0, y3, R, A⟩⟩
      · have hxe : (er != 0) = true := by simp [hne]
        have HN : Hid (er ≠ 0) := hne
        have HE : Hid (er = clE zs) := her.trans HC.out.symm
        clear hne her
        go_wp2_with fail
        go_step3
        exact ⟨rfl, er, HE.out, HN.out, hB0.trans (hB.mono hB0.size), (hB.block _ hlt).trans hh0, _, _, _, _, _, _, _, _, _, _, _, _, _, _, _, _, _, _, _, _, _, _, _, _, _, _, _, _, _, _, _, _, _, _, _, _, _, rfl⟩
      subst h0
      go_wp2_with fail
      rw [rounds_succ]
      go_wp2_with fail
      refine (step_prog R A).mono ?_
      clear R A
      rintro e W4 ⟨er, rfl, ⟨hne, her, hB⟩ | ⟨h0, y4, R, A⟩⟩
      · have hxe : (er != 0) = true := by simp [hne]
        have HN : Hid (er ≠ 0) := hne
        have HE : Hid (er = clE zs) := her.trans HC.out.symm
        clear hne her
        go_wp2_with fail
        go_step3
        exact ⟨rfl, er, HE.out, HN.out, hB0.trans (hB.mono hB0.size), (hB.block _ hlt).trans hh0, _, _, _, _, _, _, _, _, _, _, _, _, _, _, _, _, _, _, _, _, _, _, _, _, _, _, _, _, _, _, _, _, _, _, _, _, _, rfl⟩
      subst h0
      go_wp2_with fail
      rw [rounds_succ]
      go_wp2_with fail
      refine (step_vers R A).mono ?_
      clear R A
      rintro e W5 ⟨er, rfl, ⟨hne, her, hB⟩ | ⟨h0, y5, R, A⟩⟩
      · have hxe : (er != 0) = true := by simp [hne]
        have HN : Hid (er ≠ 0) := hne
        have HE : Hid (er = clE zs) := her.trans HC.out.symm
        clear hne her
        go_wp2_with fail
        go_step3
        exact ⟨rfl, er, HE.out, HN.out, hB0.trans (hB.mono hB0.size), (hB.block _ hlt).trans hh0, _, _, _, _, _, _, _, _, _, _, _, _, _, _, _, _, _, _, _, _, _, _, _, _, _, _, _, _, _, _, _, _, _, _, _, _, _, rfl⟩
      subst h0
      go_wp2_with fail
      rw [rounds_succ]
      go_wp2_with fail
      refine (step_proc R A).mono ?_
      clear R A
      rintro e W6 ⟨er, rfl, ⟨hne, her, hB⟩ | ⟨h0, y6, R, A⟩⟩
      · have hxe : (er != 0) = true := by simp [hne]
        have HN : Hid (er ≠ 0) := hne
        have HE : Hid (er = clE zs) := her.trans HC.out.symm
        clear hne her
        go_wp2_with fail
        go_step3
        exact ⟨rfl, er, HE.out, HN.out, hB0.trans (hB.mono hB0.size), (hB.block _ hlt).trans hh0, _, _, _, _, _, _, _, _, _, _, _, _, _, _, _, _, _, _, _, _, _, _, _, _, _, _, _, _, _, _, _, _, _, _, _, _, _, rfl⟩
      subst h0
      go_wp2_with fail
      rw [rounds_succ]
      go_wp2_with fail
      refine (step_flavor R A).mono ?_
      clear R A
      rintro e W7 ⟨er, rfl, ⟨hne, her, hB⟩ | ⟨h0, y7, R, A⟩⟩
      · have hxe : (er != 0) = true := by simp [hne]
        have HN : Hid (er ≠ 0) := hne
        have HE : Hid (er = clE zs) := her.trans HC.out.symm
        clear hne her
        go_wp2_with fail
        go_step3
        exact ⟨rfl, er, HE.out, HN.out, hB0.trans (hB.mono hB0.size), (hB.block _ hlt).trans hh0, _, _, _, _, _, _, _, _, _, _, _, _, _, _, _, _, _, _, _, _, _, _, _, _, _, _, _, _, _, _, _, _, _, _, _, _, _, rfl⟩
      subst h0
      go_wp2_with fail
      rw [rounds_succ]
      go_wp2_with fail
      refine (step_who R A).mono ?_
      clear R A
      rintro e W8 ⟨er, rfl, ⟨hne, her, hB⟩ | ⟨h0, y8, R, A⟩⟩
      · have hxe : (er != 0) = true := by simp [hne]
        have HN : Hid (er ≠ 0) := hne
        have HE : Hid (er = clE zs) := her.trans HC.out.symm
        clear hne her
        go_wp2_with fail
        go_step3
        exact ⟨rfl, er, HE.out, HN.out, hB0.trans (hB.mono hB0.size), (hB.block _ hlt).trans hh0, _, _, _, _, _, _, _, _, _, _, _, _, _, _, _, _, _, _, _, _, _, _, _, _, _, _, _, _, _, _, _, _, _, _, _, _, _, rfl⟩
      subst h0
      go_wp2_with fail
      rw [rounds_succ]
      go_wp2_with fail
      refine (step_proofFlavor R A).mono ?_
      clear R A
      rintro e W9 ⟨er, rfl, ⟨hne, her, hB⟩ | ⟨h0, y9, R, A⟩⟩
      · have hxe : (er != 0) = true := by simp [hne]
        have HN : Hid (er ≠ 0) := hne
        have HE : Hid (er = clE zs) := her.trans HC.out.symm
        clear hne her
        go_wp2_with fail
        go_step3
        exact ⟨rfl, er, HE.out, HN.out, hB0.trans (hB.mono hB0.size), (hB.block _ hlt).trans hh0, _, _, _, _, _, _, _, _, _, _, _, _, _, _, _, _, _, _, _, _, _, _, _, _, _, _, _, _, _, _, _, _, _, _, _, _, _, rfl⟩
      subst h0
      go_wp2_with fail
      rw [rounds_succ]
      go_wp2_with fail
      refine (step_proof R A).mono ?_
      clear R A
      rintro e W10 ⟨er, rfl, ⟨hne, her, hB⟩ | ⟨h0, y10, R, A⟩⟩
      · have hxe : (er != 0) = true := by simp [hne]
        have HN : Hid (er ≠ 0) := hne
        have HE : Hid (er = clE zs) := her.trans HC.out.symm
        clear hne her
        go_wp2_with fail
        go_step3
        exact ⟨rfl, er, HE.out, HN.out, hB0.trans (hB.mono hB0.size), (hB.block _ hlt).trans hh0, _, _, _, _, _, _, _, _, _, _, _, _, _, _, _, _, _, _, _, _, _, _, _, _, _, _, _, _, _, _, _, _, _, _, _, _, _, rfl⟩
      subst h0
      go_wp2_with fail
      rw [rounds_succ]
      go_wp2_with fail
      refine (step_body R A).mono ?_
      clear R A
      rintro e W11 ⟨er, rfl, ⟨hne, her, hB⟩ | ⟨h0, y11, R, A⟩⟩
      · have hxe : (er != 0) = true := by simp [hne]
        have HN : Hid (er ≠ 0) := hne
        have HE : Hid (er = clE zs) := her.trans HC.out.symm
        clear hne her
        go_wp2_with fail
        go_step3
        exact ⟨rfl, er, HE.out, HN.out, hB0.trans (hB.mono hB0.size), (hB.block _ hlt).trans hh0, _, _, _, _, _, _, _, _, _, _, _, _, _, _, _, _, _, _, _, _, _, _, _, _, _, _, _, _, _, _, _, _, _, _, _, _, _, rfl⟩
      subst h0
      go_wp2_with fail
      clear hix0 hix1 hix2 hix3 hix4 hix5 hix6 hix7 hix8 hix9 hix10
      have hc := (R.below.block _ hlt).trans hh0
      have r0 : W11.cell? ⟨w.heap.size + 1, 1, none⟩ = some (.int .u32 y11.x) := R.cell 1 rfl
      have r1 : W11.cell? ⟨w.heap.size + 1, 2, none⟩ = some (.int .u32 y11.p) := R.cell 2 rfl
      have r2 : W11.cell? ⟨w.heap.size + 1, 3, none⟩ = some (.int .u32 y11.v) := R.cell 3 rfl
      have r3 : W11.cell? ⟨w.heap.size + 1, 4, none⟩ = some (.int .u32 y11.c) := R.cell 4 rfl
      have r4 : W11.cell? ⟨w.heap.size + 1, 5, none⟩ = some (.int .u32 y11.f) := R.cell 5 rfl
      have r5 : W11.cell? ⟨w.heap.size + 1, 6, none⟩ = some (.string y11.m) := R.cell 6 rfl
      have r6 : W11.cell? ⟨w.heap.size + 1, 7, none⟩ = some (.int .u32 y11.s) := R.cell 7 rfl
      have r7 : W11.cell? ⟨w.heap.size + 1, 8, none⟩ = some (.int .u32 y11.u) := R.cell 8 rfl
      have r8 : W11.cell? ⟨w.heap.size + 1, 9, none⟩ = some (.int .u32 y11.g) := R.cell 9 rfl
      have r9 : W11.cell? ⟨w.heap.size + 1, 10, none⟩ = some (.slice y11.ga y11.gl y11.gc) := R.cell 10 rfl
      have r10 : W11.cell? ⟨w.heap.size + 1, 11, none⟩ = some (.slice y11.ba y11.bl y11.bc) := R.cell 11 rfl
      obtain ⟨c0, c1, c2, c3, c4, c5, c6, c7, c8, c9, c10⟩ := call_at hc
      have fz := fun k => frozen_at (k := k) hc
      have hB := hB0.trans (R.below.mono hB0.size)
      have ho1 := R.ownG
      have ho2 := R.ownB
      have hl1 := R.glen
      have hl2 := R.blen
      have hE0 : Hid (clE zs = 0) := by
        show clE zs = 0
        rw [HC.out, A.e]
        rfl
      rw [rounds_succ]
      clear hB0 R hh0 hlt hw0
      go_wp2
      have hc' := call_set hc (.int .u32 y11.x) (.int .u32 y11.p) (.int .u32 y11.v) (.int .u32 y11.c) (.int .u32 y11.f) (.string y11.m) (.int .u32 y11.s) (.int .u32 y11.u) (.int .u32 y11.g) (.slice y11.ga y11.gl y11.gc) (.slice y11.ba y11.bl y11.bc)
      have hB' := call_below (h := w.heap.size) hB (Nat.le_refl _) (.int .u32 y11.x) (.int .u32 y11.p) (.int .u32 y11.v) (.int .u32 y11.c) (.int .u32 y11.f) (.string y11.m) (.int .u32 y11.s) (.int .u32 y11.u) (.int .u32 y11.g) (.slice y11.ga y11.gl y11.gc) (.slice y11.ba y11.bl y11.bc)
      have hk : Kept (fun b => b = w.heap.size) W11 (((((((((((W11.setCell ⟨w.heap.size, 0, none⟩ (.int .u32 y11.x)).setCell ⟨w.heap.size, 1, none⟩ (.int .u32 y11.p)).setCell ⟨w.heap.size, 2, none⟩ (.int .u32 y11.v)).setCell ⟨w.heap.size, 3, none⟩ (.int .u32 y11.c)).setCell ⟨w.heap.size, 4, none⟩ (.int .u32 y11.f)).setCell ⟨w.heap.size, 5, none⟩ (.string y11.m)).setCell ⟨w.heap.size, 6, none⟩ (.int .u32 y11.s)).setCell ⟨w.heap.size, 7, none⟩ (.int .u32 y11.u)).setCell ⟨w.heap.size, 8, none⟩ (.int .u32 y11.g)).setCell ⟨w.heap.size, 9, none⟩ (.slice y11.ga y11.gl y11.gc)).setCell ⟨w.heap.size, 10, none⟩ (.slice y11.ba y11.bl y11.bc)) := (((((((((((kept_one (.int .u32 y11.x)).trans (kept_one (.int .u32 y11.p))).trans (kept_one (.int .u32 y11.v))).trans (kept_one (.int .u32 y11.c))).trans (kept_one (.int .u32 y11.f))).trans (kept_one (.string y11.m))).trans (kept_one (.int .u32 y11.s))).trans (kept_one (.int .u32 y11.u))).trans (kept_one (.int .u32 y11.g))).trans (kept_one (.slice y11.ga y11.gl y11.gc))).trans (kept_one (.slice y11.ba y11.bl y11.bc)))
      have ho1' := bo hk ho1 (by omega)
      have ho2' := bo hk ho2 (by omega)
      clear hk
      generalize (((((((((((W11.setCell ⟨w.heap.size, 0, none⟩ (.int .u32 y11.x)).setCell ⟨w.heap.size, 1, none⟩ (.int .u32 y11.p)).setCell ⟨w.heap.size, 2, none⟩ (.int .u32 y11.v)).setCell ⟨w.heap.size, 3, none⟩ (.int .u32 y11.c)).setCell ⟨w.heap.size, 4, none⟩ (.int .u32 y11.f)).setCell ⟨w.heap.size, 5, none⟩ (.string y11.m)).setCell ⟨w.heap.size, 6, none⟩ (.int .u32 y11.s)).setCell ⟨w.heap.size, 7, none⟩ (.int .u32 y11.u)).setCell ⟨w.heap.size, 8, none⟩ (.int .u32 y11.g)).setCell ⟨w.heap.size, 9, none⟩ (.slice y11.ga y11.gl y11.gc)).setCell ⟨w.heap.size, 10, none⟩ (.slice y11.ba y11.bl y11.bc)) = w1 at *
      clear c0 c1 c2 c3 c4 c5 c6 c7 c8 c9 c10 fz hc hB r0 r1 r2 r3 r4 r5 r6 r7 r8 r9 r10 ho1 ho2
      obtain ⟨c0, c1, c2, c3, c4, c5, c6, c7, c8, c9, c10⟩ := call_at hc'
      rw [jump_ret]
      refine bodyPost_ret (v := .tuple #[.agg #[.int .u32 y11.x, .int .u32 y11.p, .int .u32 y11.v, .int .u32 y11.c, .int .u32 y11.f, .string y11.m, .int .u32 y11.s, .int .u32 y11.u, .int .u32 y11.g, .slice y11.ga y11.gl y11.gc, .slice y11.ba y11.bl y11.bc], .int .i64 0]) (by simp [results, Tryz.results5, go_sem, c0, c1, c2, c3, c4, c5, c6, c7, c8, c9, c10]) rfl ?_
      obtain ⟨q1, q2, q3, q4, q5⟩ := A.w (by omega)
      have q6 := A.b (by omega)
      refine ⟨hB', .inr ⟨hE0.out, y11.ga, y11.gc, y11.ba, y11.bc, ?_, ?_, ?_⟩⟩
      · rw [← q5, ← q6, hl1, hl2, ← q1, ← q2, ← q3, ← q4, ← A.x (by omega), ← A.p (by omega), ← A.v (by omega), ← A.c (by omega), ← A.f (by omega)]
      · rw [← q5, hl1]
        exact own_base ho1' (by omega)
      · rw [← q6, hl2]
        exact own_base ho2' (by omega)
end Go.Proofs.YtciinabhelfnoaaGreatDoor
