/- 'Get' of one who calls: what its boxes hold while it reads, and what each step leaves. -/
import Derived.Test.YtciinabhelfnoaaGreatDoorCredReadM
import Derived.Test.YtciinabhelfnoaaGreatDoorNums
import Derived.Test.YtciinabhelfnoaaGreatDoorNumsMathRead4M
import Derived.Test.YtciinabhelfnoaaGreatDoorStrPGM
import Derived.Deep.OwnRows
import Derived.RegionTactic
namespace Go.Proofs.YtciinabhelfnoaaGreatDoor
set_option linter.unusedVariables false
open Go.RowKit

/-- What 'Get' has read so far: the fields, the Groups' row, what is left of the bytes, the error. -/
structure GS where
  s : Int
  m : ByteArray
  u : Int
  g : Int
  n : Int
  va : Option Addr
  vn : Nat
  vc : Nat
  gs : List Int
  a : Option Addr
  len : Nat
  cap : Nat
  zs : List Int
  e : Int

structure Gt (w : World) (x : GS) (W : World) : Prop where
  below : Below w.heap.size w W
  b0 : Boxed W w.heap.size 24 (.int .u32 x.s)
  b1 : Boxed W (w.heap.size + 1) 9 (.string x.m)
  b2 : W.heap[w.heap.size + 1 + 1]? = some (.cells #[.int .u32 x.u, .int .u32 x.g, .slice x.va x.vn x.vc] 27)
  b3 : Boxed W (w.heap.size + 1 + 1 + 1) 24 (.int .u32 x.n)
  b4 : Boxed W (w.heap.size + 1 + 1 + 1 + 1) 22 (.slice x.a x.len x.cap)
  b5 : Boxed W (w.heap.size + 1 + 1 + 1 + 1 + 1) 30 (.int .i64 x.e)
  own : W.ownsRow (w.heap.size + 6) 24 1 (.slice x.va x.vn x.vc) x.vn (x.gs.map (Value.int .u32))
  seg : Seg w x.a x.zs
  len : x.zs.length = x.len
  lc : x.len ≤ x.cap
  hm : x.cap ≤ 9223372036854775807
  byt : Byt x.zs

theorem bx {W W' : World} {D B : Nat} {t : TypeId} {v : Value} (hk : Kept (fun k => k = D) W W') (h : Boxed W B t v) (hne : B ≠ D) : Boxed W' B t v := (hk.block B h.lt hne).trans h
theorem bc {W W' : World} {D B : Nat} {o : Obj} (hk : Kept (fun k => k = D) W W') (h : W.heap[B]? = some o) (hne : B ≠ D) : W'.heap[B]? = some o := (hk.block B (Array.getElem?_eq_some_iff.1 h).1 hne).trans h
theorem bo {W W' : World} {D base e n : Nat} {v : Value} {xs : List Value} (hk : Kept (fun k => k = D) W W') (h : W.ownsRow base e 1 v n xs) (hne : D < base) : W'.ownsRow base e 1 v n xs := own_kept h hk (fun g hg e => by have := own_lt h hg; omega)
theorem bb {w W W' : World} {D : Nat} (hk : Kept (fun k => k = D) W W') (h : Below w.heap.size w W) (hD : w.heap.size ≤ D) : Below w.heap.size w W' := h.trans (hk.below (fun k e => by omega) h.size)

theorem Gt.next {w : World} {x : GS} {W W' : World} (h : Gt w x W) (hb : Below W.heap.size W W') : Gt w x W' :=
  have bx' : ∀ {B t v}, Boxed W B t v → Boxed W' B t v := fun h => (hb.block _ h.lt).trans h
  ⟨h.below.trans (hb.mono h.below.size), bx' h.b0, bx' h.b1, (hb.block _ (Array.getElem?_eq_some_iff.1 h.b2).1).trans h.b2, bx' h.b3, bx' h.b4, bx' h.b5, own_below h.own hb, h.seg, h.len, h.lc, h.hm, h.byt⟩
theorem Gt.segW {w : World} {x : GS} {W : World} (h : Gt w x W) : Seg W x.a x.zs := h.seg.below h.below

theorem Gt.setS {w : World} {x : GS} {W : World} (h : Gt w x W) (v : Int) : Gt w { x with s := v } (W.setCell ⟨w.heap.size, 0, none⟩ (.int .u32 v)) :=
  have hk := kept_one (W := W) (h := w.heap.size) (k := 0) (.int .u32 v)
  ⟨bb hk h.below (by omega), h.b0.set _, bx hk h.b1 (by omega), bc hk h.b2 (by omega), bx hk h.b3 (by omega), bx hk h.b4 (by omega), bx hk h.b5 (by omega), bo hk h.own (by omega), h.seg, h.len, h.lc, h.hm, h.byt⟩
theorem Gt.setM {w : World} {x : GS} {W : World} (h : Gt w x W) (v : ByteArray) : Gt w { x with m := v } (W.setCell ⟨w.heap.size + 1, 0, none⟩ (.string v)) :=
  have hk := kept_one (W := W) (h := w.heap.size + 1) (k := 0) (.string v)
  ⟨bb hk h.below (by omega), bx hk h.b0 (by omega), h.b1.set _, bc hk h.b2 (by omega), bx hk h.b3 (by omega), bx hk h.b4 (by omega), bx hk h.b5 (by omega), bo hk h.own (by omega), h.seg, h.len, h.lc, h.hm, h.byt⟩
theorem Gt.setU {w : World} {x : GS} {W : World} (h : Gt w x W) (v : Int) : Gt w { x with u := v } (W.setCell ⟨w.heap.size + 1 + 1, 0, none⟩ (.int .u32 v)) :=
  have hk := kept_one (W := W) (h := w.heap.size + 1 + 1) (k := 0) (.int .u32 v)
  ⟨bb hk h.below (by omega), bx hk h.b0 (by omega), bx hk h.b1 (by omega), setCell_same h.b2 _, bx hk h.b3 (by omega), bx hk h.b4 (by omega), bx hk h.b5 (by omega), bo hk h.own (by omega), h.seg, h.len, h.lc, h.hm, h.byt⟩
theorem Gt.setG {w : World} {x : GS} {W : World} (h : Gt w x W) (v : Int) : Gt w { x with g := v } (W.setCell ⟨w.heap.size + 1 + 1, 1, none⟩ (.int .u32 v)) :=
  have hk := kept_one (W := W) (h := w.heap.size + 1 + 1) (k := 1) (.int .u32 v)
  ⟨bb hk h.below (by omega), bx hk h.b0 (by omega), bx hk h.b1 (by omega), setCell_same h.b2 _, bx hk h.b3 (by omega), bx hk h.b4 (by omega), bx hk h.b5 (by omega), bo hk h.own (by omega), h.seg, h.len, h.lc, h.hm, h.byt⟩
theorem Gt.setN {w : World} {x : GS} {W : World} (h : Gt w x W) (v : Int) : Gt w { x with n := v } (W.setCell ⟨w.heap.size + 1 + 1 + 1, 0, none⟩ (.int .u32 v)) :=
  have hk := kept_one (W := W) (h := w.heap.size + 1 + 1 + 1) (k := 0) (.int .u32 v)
  ⟨bb hk h.below (by omega), bx hk h.b0 (by omega), bx hk h.b1 (by omega), bc hk h.b2 (by omega), h.b3.set _, bx hk h.b4 (by omega), bx hk h.b5 (by omega), bo hk h.own (by omega), h.seg, h.len, h.lc, h.hm, h.byt⟩
theorem Gt.setV {w : World} {x : GS} {W : World} (h : Gt w x W) (va : Option Addr) (vn vc : Nat) (gs : List Int) (ho : W.ownsRow (w.heap.size + 6) 24 1 (.slice va vn vc) vn (gs.map (Value.int .u32))) : Gt w { x with va := va, vn := vn, vc := vc, gs := gs } (W.setCell ⟨w.heap.size + 1 + 1, 2, none⟩ (.slice va vn vc)) :=
  have hk := kept_one (W := W) (h := w.heap.size + 1 + 1) (k := 2) (.slice va vn vc)
  ⟨bb hk h.below (by omega), bx hk h.b0 (by omega), bx hk h.b1 (by omega), setCell_same h.b2 _, bx hk h.b3 (by omega), bx hk h.b4 (by omega), bx hk h.b5 (by omega), bo hk ho (by omega), h.seg, h.len, h.lc, h.hm, h.byt⟩
theorem Gt.setA {w : World} {x : GS} {W : World} (h : Gt w x W) (a : Option Addr) (len cap : Nat) (zs : List Int) (hs : Seg w a zs) (hz : zs.length = len) (hlc : len ≤ cap) (hm : cap ≤ 9223372036854775807) (hb : Byt zs) : Gt w { x with a := a, len := len, cap := cap, zs := zs } (W.setCell ⟨w.heap.size + 1 + 1 + 1 + 1, 0, none⟩ (.slice a len cap)) :=
  have hk := kept_one (W := W) (h := w.heap.size + 1 + 1 + 1 + 1) (k := 0) (.slice a len cap)
  ⟨bb hk h.below (by omega), bx hk h.b0 (by omega), bx hk h.b1 (by omega), bc hk h.b2 (by omega), bx hk h.b3 (by omega), h.b4.set _, bx hk h.b5 (by omega), bo hk h.own (by omega), hs, hz, hlc, hm, hb⟩
theorem Gt.setE {w : World} {x : GS} {W : World} (h : Gt w x W) (v : Int) : Gt w { x with e := v } (W.setCell ⟨w.heap.size + 1 + 1 + 1 + 1 + 1, 0, none⟩ (.int .i64 v)) :=
  have hk := kept_one (W := W) (h := w.heap.size + 1 + 1 + 1 + 1 + 1) (k := 0) (.int .i64 v)
  ⟨bb hk h.below (by omega), bx hk h.b0 (by omega), bx hk h.b1 (by omega), bc hk h.b2 (by omega), bx hk h.b3 (by omega), bx hk h.b4 (by omega), h.b5.set _, bo hk h.own (by omega), h.seg, h.len, h.lc, h.hm, h.byt⟩
theorem Gt.setI {w : World} {x : GS} {W : World} (h : Gt w x W) (gb i : Nat) (hv : x.va = some ⟨gb, 0, none⟩) (v : Int) : Gt w { x with gs := x.gs.set i v } (W.setCell ⟨gb, i, none⟩ (.int .u32 v)) :=
  have hk := kept_one (W := W) (h := gb) (k := i) (.int .u32 v)
  have hl := own_lt h.own (g := gb) (by rw [hv]; rfl)
  have ho : (W.setCell ⟨gb, i, none⟩ (.int .u32 v)).ownsRow (w.heap.size + 6) 24 1 (.slice x.va x.vn x.vc) x.vn ((x.gs.set i v).map (Value.int .u32)) := by
    have h1 := h.own
    rw [hv] at h1 ⊢
    rw [List.map_set]
    exact (h1.stored i (.int .u32 v)).1
  ⟨bb hk h.below (by omega), bx hk h.b0 (by omega), bx hk h.b1 (by omega), bc hk h.b2 (by omega), bx hk h.b3 (by omega), bx hk h.b4 (by omega), bx hk h.b5 (by omega), ho, h.seg, h.len, h.lc, h.hm, h.byt⟩

theorem seg_on {w : World} {b off o' len sz : Nat} {zs : List Int} (h : Seg w (some ⟨b, off, none⟩) zs) (hz : zs.length = len) (ho : o' = off + sz ∨ len = sz) : Seg w (some ⟨b, o', none⟩) (zs.drop sz) := by
  rcases ho with rfl | rfl
  · rcases h with h | ⟨b', off', e, hc⟩
    · exact .inl (by simp [h])
    · cases e
      refine .inr ⟨_, _, rfl, fun i hi => ?_⟩
      rw [List.length_drop] at hi
      rw [List.getElem?_drop, Nat.add_assoc]
      exact hc (sz + i) (by omega)
  · exact .inl (by rw [List.drop_eq_nil_of_le (by omega)])

theorem Gt.adv {w : World} {x : GS} {W : World} (h : Gt w x W) (b off o' sz : Nat) (ha : x.a = some ⟨b, off, none⟩) (ho : o' = off + sz ∨ x.len = sz) (hsz : sz ≤ x.len) :
    Gt w { x with a := some ⟨b, o', none⟩, len := x.len - sz, cap := x.cap - sz, zs := x.zs.drop sz } (W.setCell ⟨w.heap.size + 1 + 1 + 1 + 1, 0, none⟩ (.slice (some ⟨b, o', none⟩) (x.len - sz) (x.cap - sz))) :=
  h.setA _ _ _ _ (seg_on (by rw [← ha]; exact h.seg) h.len ho) (by rw [List.length_drop, h.len]) (by have := h.lc; omega) (by have := h.hm; omega) (fun i => by rw [List.getElem?_drop]; exact h.byt _)

/-- A number is read: kept back behind an error; too few bytes; or it is there. -/
def NumStep (up : Int → GS) (x y : GS) : Prop :=
  (x.e ≠ 0 ∧ y = x) ∨ (x.e = 0 ∧ x.len < 4 ∧ y = { up 0 with e := 4 }) ∨
    (x.e = 0 ∧ 4 ≤ x.len ∧ ∃ b o', y = { up (be (x.zs.take 4)) with a := some ⟨b, o', none⟩, len := x.len - 4, cap := x.cap - 4, zs := x.zs.drop 4 })

set_option maxHeartbeats 400000 in
theorem number_any (t : Option Addr) (W : World) : Calls Tryz.prog 79 #[.pointer t] W fun e W' => e = .returned (.func (.func 90) #[] #[.pointer (some ⟨W.heap.size, 0, none⟩)]) ∧ W' = W.alloc (.cells #[.pointer t] 63) := by
  go_enter Tryz.func79, Tryz.ntmps79
  go_wp2
  go_ret
  exact ⟨rfl, rfl⟩

set_option maxHeartbeats 1000000 in
theorem number1_any (a : Option Addr) (len cap : Nat) (zs : List Int) (P X o : Nat) (old : Value) (W : World) (hlc : len ≤ cap) (hm : cap ≤ 9223372036854775807) (hz : zs.length = len) (hb : Byt zs) (hs : Seg W a zs)
    (hP : Boxed W P 63 (.pointer (some ⟨X, o, none⟩))) (hc : W.cell? ⟨X, o, none⟩ = some old) (hf : W.frozen? ⟨X, o, none⟩ = false) :
    Calls Tryz.prog 90 #[.slice a len cap, .pointer (some ⟨P, 0, none⟩)] W fun e W' => e = .returned (.tuple #[.int .i64 4, .int .i64 (getE zs)]) ∧ W' = W.setCell ⟨X, o, none⟩ (.int .u32 (getN zs)) := by
  have cP := hP.cell
  go_enter Tryz.func90, Tryz.ntmps90
  go_wp2_with fail
  refine (get_any a len cap zs W hlc hm hz hb hs).mono ?_
  rintro e w' ⟨rfl, hw'⟩
  subst w'
  go_wp2
  go_ret2
  exact ⟨rfl, rfl⟩

theorem own_no_lt {w : World} {x : GS} {W : World} (h : Gt w x W) {P : Nat} {t : TypeId} {v : Value} (hP : Boxed W P t v) (h1 : t ≠ 22) (h2 : t ≠ 30) : P ≠ w.heap.size + 1 + 1 + 1 + 1 ∧ P ≠ w.heap.size + 1 + 1 + 1 + 1 + 1 := by
  refine ⟨?_, ?_⟩
  · rintro rfl
    have := hP.symm.trans h.b4
    simp at this
    exact h1 this.2
  · rintro rfl
    have := hP.symm.trans h.b5
    simp at this
    exact h2 this.2

theorem getNE {zs : List Int} {len : Nat} (hz : zs.length = len) : (len < 4 → getN zs = 0 ∧ getE zs = 4) ∧ (4 ≤ len → getN zs = be (zs.take 4) ∧ getE zs = 0) := by
  subst hz
  refine ⟨fun h => ?_, fun h => ?_⟩
  · simp [getN, getE, h]
  · have h' : ¬ zs.length < 4 := by omega
    simp [getN, getE, h']

theorem seg_some {w : World} {a : Option Addr} {zs : List Int} (h : Seg w a zs) (hz : zs ≠ []) : ∃ b off, a = some ⟨b, off, none⟩ := by
  rcases h with h | ⟨b, off, e, _⟩
  · exact absurd h hz
  · exact ⟨b, off, e⟩

/-- 'read(number(..))' at any of the fields. -/
theorem step_num {w : World} {x : GS} {W : World} (h : Gt w x W) (P X o : Nat) (old : Value) (up : Int → GS) (hP : Boxed W P 63 (.pointer (some ⟨X, o, none⟩))) (hc : W.cell? ⟨X, o, none⟩ = some old) (hf : W.frozen? ⟨X, o, none⟩ = false)
    (hset : ∀ v, Gt w (up v) (W.setCell ⟨X, o, none⟩ (.int .u32 v))) (hsame : ∀ v, (up v).a = x.a ∧ (up v).len = x.len ∧ (up v).cap = x.cap ∧ (up v).zs = x.zs ∧ (up v).e = x.e) :
    Calls Tryz.prog 89 #[.func (.func 90) #[] #[.pointer (some ⟨P, 0, none⟩)], .pointer (some ⟨w.heap.size + 1 + 1 + 1 + 1 + 1, 0, none⟩), .pointer (some ⟨w.heap.size + 1 + 1 + 1 + 1, 0, none⟩)] W fun e W' =>
      ∃ y, e = .returned (.int .i64 y.e) ∧ Gt w y W' ∧ NumStep up x y := by
  by_cases h0 : x.e = 0
  · refine (read_number (.pointer (some ⟨P, 0, none⟩)) _ _ x.a x.len x.cap W h.lc h.hm h.b4 (by rw [← h0]; exact h.b5) (fun sz er W' => sz = 4 ∧ er = getE x.zs ∧ W' = W.setCell ⟨X, o, none⟩ (.int .u32 (getN x.zs))) ((number1_any x.a x.len x.cap x.zs P X o old W h.lc h.hm h.len h.byt h.segW hP hc hf).mono ?_) ?_).mono ?_
    · rintro e W' ⟨rfl, rfl⟩
      exact ⟨4, _, rfl, rfl, rfl, rfl⟩
    · rintro sz er W1 ⟨rfl, rfl, rfl⟩
      have hg := hset (getN x.zs)
      obtain ⟨e1, e2, e3, e4, e5⟩ := hsame (getN x.zs)
      have h4 := hg.b4
      have h5 := hg.b5
      rw [e1, e2, e3] at h4
      rw [e5, h0] at h5
      refine ⟨h4, h5, fun he => ?_⟩
      by_cases hl : x.len < 4
      · rw [((getNE h.len).1 hl).2] at he
        simp at he
      · exact ⟨by omega, seg_some h.seg (fun hz => by have := h.len; rw [hz] at this; simp at this; omega)⟩
    · rintro e W' ⟨sz, er, W1, ⟨rfl, rfl, rfl⟩, rfl, hh⟩
      by_cases hl : x.len < 4
      · obtain ⟨hN, hE⟩ := (getNE h.len).1 hl
        rw [hN, hE] at hh
        rcases hh with ⟨_, rfl⟩ | ⟨hh, _⟩
        · exact ⟨{ up 0 with e := 4 }, by rw [hE], (hset 0).setE 4, .inr (.inl ⟨h0, hl, rfl⟩)⟩
        · simp at hh
      · obtain ⟨hN, hE⟩ := (getNE h.len).2 (by omega)
        rw [hN, hE] at hh
        rcases hh with ⟨hh, _⟩ | ⟨_, b, off, o', ha, ho, rfl⟩
        · simp at hh
        · obtain ⟨e1, e2, e3, e4, e5⟩ := hsame (be (x.zs.take 4))
          have hg := (hset (be (x.zs.take 4))).adv b off o' 4 (by rw [e1]; exact ha) (by rw [e2]; exact ho) (by rw [e2]; omega)
          rw [e2, e3, e4] at hg
          exact ⟨_, by rw [hE]; simp only; rw [e5, h0], hg, .inr (.inr ⟨h0, by omega, b, o', rfl⟩)⟩
  · refine (kept_number (.pointer (some ⟨P, 0, none⟩)) _ _ x.e W h0 h.b5).mono ?_
    rintro e W' ⟨rfl, rfl⟩
    exact ⟨x, rfl, h, .inl ⟨h0, rfl⟩⟩
end Go.Proofs.YtciinabhelfnoaaGreatDoor
