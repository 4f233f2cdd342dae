/- 'Get' of a call: the methods of its reader: what each answers, and what it leaves. -/
import Derived.Test.YtciinabhelfnoaaGreatDoorCredGetM
import Derived.Test.YtciinabhelfnoaaGreatDoorCallAtM
import Derived.Test.YtciinabhelfnoaaGreatDoorCutsM
import Derived.Test.YtciinabhelfnoaaGreatDoorGetOpqM
import Derived.Test.YtciinabhelfnoaaGreatDoorTakenCloneM
import Derived.Outline
import Derived.Test.YtciinabhelfnoaaGreatDoorNums
namespace Go.Proofs.YtciinabhelfnoaaGreatDoor
set_option linter.unusedVariables false
open Go.RowKit

/-- What the reader's box holds while a call is read. -/
structure Rt (w : World) (h : Nat) (y : RS) (W : World) : Prop where
  below : Below w.heap.size w W
  hh : w.heap.size ≤ h
  cells : W.heap[h]? = some (.cells #[.slice y.a y.len y.cap, .int .u32 y.x, .int .u32 y.p, .int .u32 y.v, .int .u32 y.c, .int .u32 y.f, .string y.m, .int .u32 y.s, .int .u32 y.u, .int .u32 y.g, .slice y.ga y.gl y.gc, .slice y.ba y.bl y.bc] 49)
  ownG : W.ownsRow (h + 1) 24 1 (.slice y.ga y.gl y.gc) y.gl (y.gs.map (Value.int .u32))
  ownB : W.ownsRow (h + 1) 5 1 (.slice y.ba y.bl y.bc) y.bl (y.bs.map (Value.int .u8))
  glen : y.gs.length = y.gl
  blen : y.bs.length = y.bl
  seg : Seg w y.a y.zs
  len : y.zs.length = y.len
  lc : y.len ≤ y.cap
  hm : y.cap ≤ 9223372036854775807
  sm : y.len ≤ 65536
  byt : Byt y.zs
  nil : y.a = none → y.len = 0 ∧ y.cap = 0

theorem Rt.lt {w : World} {h : Nat} {y : RS} {W : World} (R : Rt w h y W) : h < W.heap.size := (Array.getElem?_eq_some_iff.1 R.cells).1
theorem Rt.next {w : World} {h : Nat} {y : RS} {W W' : World} (R : Rt w h y W) (hb : Below W.heap.size W W') : Rt w h y W' :=
  { R with below := R.below.trans (hb.mono R.below.size), cells := (hb.block _ R.lt).trans R.cells, ownG := own_below R.ownG hb, ownB := own_below R.ownB hb }
theorem Rt.segW {w : World} {h : Nat} {y : RS} {W : World} (R : Rt w h y W) : Seg W y.a y.zs := R.seg.below R.below
theorem Rt.cell {w : World} {h : Nat} {y : RS} {W : World} (R : Rt w h y W) (k : Nat) {v : Value} (hk : (#[.slice y.a y.len y.cap, .int .u32 y.x, .int .u32 y.p, .int .u32 y.v, .int .u32 y.c, .int .u32 y.f, .string y.m, .int .u32 y.s, .int .u32 y.u, .int .u32 y.g, .slice y.ga y.gl y.gc, .slice y.ba y.bl y.bc] : Array Value)[k]? = some v) : W.cell? ⟨h, k, none⟩ = some v := by
  simp only [World.cell?, R.cells]
  exact hk
theorem Rt.frozen {w : World} {h : Nat} {y : RS} {W : World} (R : Rt w h y W) (k : Nat) : W.frozen? ⟨h, k, none⟩ = false := by simp [World.frozen?, R.cells]
/-- A cell of the box is set. -/
theorem Rt.put {w : World} {h : Nat} {y z : RS} {W : World} (R : Rt w h y W) (k : Nat) (x : Value) (hc : (#[.slice y.a y.len y.cap, .int .u32 y.x, .int .u32 y.p, .int .u32 y.v, .int .u32 y.c, .int .u32 y.f, .string y.m, .int .u32 y.s, .int .u32 y.u, .int .u32 y.g, .slice y.ga y.gl y.gc, .slice y.ba y.bl y.bc] : Array Value).setIfInBounds k x = #[.slice z.a z.len z.cap, .int .u32 z.x, .int .u32 z.p, .int .u32 z.v, .int .u32 z.c, .int .u32 z.f, .string z.m, .int .u32 z.s, .int .u32 z.u, .int .u32 z.g, .slice z.ga z.gl z.gc, .slice z.ba z.bl z.bc])
    (ho : W.ownsRow (h + 1) 24 1 (.slice z.ga z.gl z.gc) z.gl (z.gs.map (Value.int .u32)) ∧ W.ownsRow (h + 1) 5 1 (.slice z.ba z.bl z.bc) z.bl (z.bs.map (Value.int .u8)) ∧ z.gs.length = z.gl ∧ z.bs.length = z.bl)
    (hz : Seg w z.a z.zs ∧ z.zs.length = z.len ∧ z.len ≤ z.cap ∧ z.cap ≤ 9223372036854775807 ∧ z.len ≤ 65536 ∧ Byt z.zs ∧ (z.a = none → z.len = 0 ∧ z.cap = 0)) : Rt w h z (W.setCell ⟨h, k, none⟩ x) :=
  have hk := kept_one (W := W) (h := h) (k := k) x
  ⟨bb hk R.below R.hh, R.hh, by rw [setCell_same R.cells x, ← hc], bo hk ho.1 (by omega), bo hk ho.2.1 (by omega), ho.2.2.1, ho.2.2.2, hz.1, hz.2.1, hz.2.2.1, hz.2.2.2.1, hz.2.2.2.2.1, hz.2.2.2.2.2.1, hz.2.2.2.2.2.2⟩
theorem Rt.owns {w : World} {h : Nat} {y : RS} {W : World} (R : Rt w h y W) : W.ownsRow (h + 1) 24 1 (.slice y.ga y.gl y.gc) y.gl (y.gs.map (Value.int .u32)) ∧ W.ownsRow (h + 1) 5 1 (.slice y.ba y.bl y.bc) y.bl (y.bs.map (Value.int .u8)) ∧ y.gs.length = y.gl ∧ y.bs.length = y.bl := ⟨R.ownG, R.ownB, R.glen, R.blen⟩
theorem Rt.left {w : World} {h : Nat} {y : RS} {W : World} (R : Rt w h y W) : Seg w y.a y.zs ∧ y.zs.length = y.len ∧ y.len ≤ y.cap ∧ y.cap ≤ 9223372036854775807 ∧ y.len ≤ 65536 ∧ Byt y.zs ∧ (y.a = none → y.len = 0 ∧ y.cap = 0) := ⟨R.seg, R.len, R.lc, R.hm, R.sm, R.byt, R.nil⟩
/-- Some of the bytes are read. -/
theorem Rt.adv {w : World} {h : Nat} {y : RS} {W : World} (R : Rt w h y W) (k : Nat) (hk : k ≤ y.len) (a' : Option Addr) (hs : Seg w a' (y.zs.drop k)) (hn : a' = none → y.len - k = 0 ∧ y.cap - k = 0) :
    Rt w h { y with a := a', len := y.len - k, cap := y.cap - k, zs := y.zs.drop k } (W.setCell ⟨h, 0, none⟩ (.slice a' (y.len - k) (y.cap - k))) :=
  R.put (z := { y with a := a', len := y.len - k, cap := y.cap - k, zs := y.zs.drop k }) 0 _ rfl R.owns ⟨hs, by rw [List.length_drop, R.len], by have := R.lc; show y.len - k ≤ y.cap - k; omega, by have := R.hm; show y.cap - k ≤ _; omega, by have := R.sm; show y.len - k ≤ _; omega, fun i => by rw [List.getElem?_drop]; exact R.byt _, hn⟩

set_option maxRecDepth 100000 in
/-- What is left from a place on, with what is known where there is nothing. -/
theorem cut_nil {w : World} {a : Option Addr} {len cap : Nat} {zs : List Int} (h : Seg w a zs) (hz : zs.length = len) (hlc : len ≤ cap) (hn : a = none → len = 0 ∧ cap = 0) (p : Nat) (hp : p ≤ len) :
    ∃ a', (∀ W, (Instr.slice 22 (.slice a len cap) (some (.int .i64 (p : Int))) none none).run Tryz.prog W = .ok (.slice a' (len - p) (cap - p)) W) ∧ Seg w a' (zs.drop p) ∧ (a' = none → len - p = 0 ∧ cap - p = 0) := by
  cases a with
  | none =>
    obtain ⟨a', hr, hs⟩ := cut_from h hz hlc p hp
    obtain ⟨rfl, rfl⟩ := hn rfl
    exact ⟨a', hr, hs, fun _ => ⟨by omega, by omega⟩⟩
  | some a =>
    have he : Tryz.prog.elem 22 = 5 := by kernel_rfl
    have hu : Tryz.prog.underlying 22 = some (.slice (Tryz.prog.elem 22)) := by rw [he]; exact Tryz.underlying22
    obtain ⟨a', hr, hs⟩ := cut_from h hz hlc p hp
    refine ⟨a', hr, hs, ?_⟩
    rintro rfl
    exfalso
    have h1 := hr w
    rw [run_slice_l w 22 (some a) len cap hu .i64 (p : Int) (by omega) (by omega)] at h1
    injection h1 with h2 h3
    injection h2 with h4 h5 h6
    split at h4 <;> simp at h4

set_option maxRecDepth 100000 in
set_option maxHeartbeats 1000000 in
theorem rnumber_any {w : World} {h : Nat} {y : RS} {W : World} (R : Rt w h y W) (X o : Nat) (old : Value) (hc : W.cell? ⟨X, o, none⟩ = some old) (hf : W.frozen? ⟨X, o, none⟩ = false)
    (h0 : ∀ v, (W.setCell ⟨X, o, none⟩ v).cell? ⟨h, 0, none⟩ = some (.slice y.a y.len y.cap)) (hf0 : ∀ v, (W.setCell ⟨X, o, none⟩ v).frozen? ⟨h, 0, none⟩ = false) :
    Calls Tryz.prog 51 #[.pointer (some ⟨h, 0, none⟩), .pointer (some ⟨X, o, none⟩)] W fun e W' => e = .returned (.int .i64 (getE y.zs)) ∧ ((getE y.zs ≠ 0 ∧ W' = W) ∨
      (getE y.zs = 0 ∧ 4 ≤ y.len ∧ ∃ a', Seg w a' (y.zs.drop 4) ∧ (a' = none → y.len - 4 = 0 ∧ y.cap - 4 = 0) ∧ W' = (W.setCell ⟨X, o, none⟩ (.int .u32 (be (y.zs.take 4)))).setCell ⟨h, 0, none⟩ (.slice a' (y.len - 4) (y.cap - 4)))) := by
  have c0 : W.cell? ⟨h, 0, none⟩ = some (.slice y.a y.len y.cap) := R.cell 0 rfl
  have hm : y.cap ≤ 9223372036854775807 := R.hm
  have hg := (get_any y.a y.len y.cap y.zs W R.lc hm R.len R.byt R.segW)
  by_cases hl : y.len < 4
  · obtain ⟨hN, hE⟩ := (getNE R.len).1 hl
    rw [hE]
    rw [hN, hE] at hg
    clear h0 hf0 hN hE
    go_enter Tryz.func51, Tryz.ntmps51
    go_wp2_with fail
    refine hg.mono ?_
    rintro e w' ⟨rfl, hw'⟩
    subst w'
    go_wp2
    go_ret
    exact ⟨rfl, .inl ⟨by decide, rfl⟩⟩
  · obtain ⟨hN, hE⟩ := (getNE R.len).2 (by omega)
    obtain ⟨a', hcut, hs', hn'⟩ := cut_nil R.seg R.len R.lc R.nil 4 (by omega)
    rw [hE]
    rw [hN, hE] at hg
    replace h0 := h0 (.int .u32 (be (y.zs.take 4)))
    replace hf0 := hf0 (.int .u32 (be (y.zs.take 4)))
    generalize be (y.zs.take 4) = nn at *
    have hcut' : ∀ W, (Instr.slice 22 (.slice y.a y.len y.cap) (some (.int .i64 4)) none none).run Tryz.prog W = .ok (.slice a' (y.len - 4) (y.cap - 4)) W := hcut
    clear hN hE hcut
    go_enter Tryz.func51, Tryz.ntmps51
    go_wp2_with fail
    refine hg.mono ?_
    rintro e w' ⟨rfl, hw'⟩
    subst w'
    go_wp2
    go_ret
    exact ⟨rfl, .inr ⟨by trivial, by omega, a', hs', hn', rfl⟩⟩
end Go.Proofs.YtciinabhelfnoaaGreatDoor

/- What is owned, as a slice of numbers; nothing is claimed of the program here. -/
namespace Go.Proofs.YtciinabhelfnoaaGreatDoor
set_option linter.unusedVariables false
open Go.RowKit

theorem own_val4 {w : World} {base e n : Nat} {v : Value} {zs : List Int} (h : w.ownsRow base e 1 v n (zs.map (Value.int .u32))) (hz : zs.length = n) : ∃ a c, v = .slice a n c ∧ Seg4 w a zs ∧ n ≤ c ∧ c ≤ 9223372036854775807 ∧ (a = none → n = 0 ∧ c = 0) := by
  rcases h.2 with ⟨rfl, h0⟩ | ⟨g, cap, cur, rfl, hg, hh, h1, h2, r⟩
  · subst h0
    exact ⟨none, 0, rfl, .inl (List.length_eq_zero_iff.1 hz), by omega, by omega, fun _ => ⟨rfl, rfl⟩⟩
  · exact ⟨_, cap, rfl, seg4_own h hz, h1, by unfold maxLen at h2; omega, by simp⟩

end Go.Proofs.YtciinabhelfnoaaGreatDoor
