/- 'messages' of marks: the iterator that tells the messages one behind the other; its contract. -/
import Derived.RangeFuncBox
import Derived.Shelf.Abstract
import Derived.WalkKit
import Derived.OwnWalkIn
import Derived.TacticsInMore
import Derived.LoopNIn
import Derived.LoopIn
import Derived.Outline
import Derived.Test.YtmjjoiljdcjhdaaDoorTurn
import Derived.Test.YtmjjoiljdcjhdaaDoorMGet
namespace Go.Proofs.YtmjjoiljdcjhdaaDoor
set_option linter.unusedVariables false
open Go.RowKit Go.Shelf
attribute [local go_sem] Oper.semAt_some

/-- What the iterator hands on: a message (where it lies, its bytes), how many bytes it had, the error. -/
structure Msg where
  p : Part
  size : Nat
  e : Int

def Msg.encs (x : Msg) : Array Value := #[.agg #[x.p.v, .int .i64 (x.size : Nat)], .int .i64 x.e]

/-- How many bytes those that have come had. -/
def total (pre : List Msg) : Nat := (pre.map Msg.size).sum

theorem total_snoc (pre : List Msg) (x : Msg) : total (pre ++ [x]) = total pre + x.size := by simp [total]

/-- A list of bytes that is owned from block B on. -/
def Part.Own (p : Part) (W : World) (B : Nat) : Prop := p.zs.length = p.len ∧ W.ownsRow B 5 1 p.v p.len (p.zs.map (Value.int .u8))

theorem Part.Own.base {p : Part} {W : World} {B B' : Nat} (h : p.Own W B) (hb : B' ≤ B) : p.Own W B' := ⟨h.1, own_base h.2 hb⟩
theorem Part.Own.grown {p : Part} {W W' : World} {B : Nat} {row : Option Nat} (h : p.Own W B) (hg : W.grownBy W' row) (hn : ∀ r, row = some r → p.v.ownBlock ≠ some r) : p.Own W' B := by
  refine ⟨h.1, h.2.kept hg ?_⟩
  cases row with
  | none =>
    cases ho : p.v.ownBlock with
    | none => exact .inl rfl
    | some k => exact .inr (by simp)
  | some r => exact .inr (hn r rfl)

theorem grown_below {W W' : World} (h : Below W.heap.size W W') (row : Option Nat) : W.grownBy W' row := ⟨h.os, h.tape, h.output, h.size, fun k hk _ => h.block k hk⟩

/-- What each round is told of what it is handed. -/
def Told (zs : List Int) (n₀ : Nat) (pre : List Msg) (x : Msg) (W : World) : Prop :=
  mg 65536 (zs.drop (total pre)) = (x.e, x.p.zs, x.size) ∧ (∀ y ∈ pre, y.e = 0) ∧ total pre ≤ zs.length ∧
  ∃ B, n₀ < B ∧ (∀ y ∈ pre, ∀ k, y.p.v.ownBlock = some k → k < B) ∧ x.p.Own W B

/-- What a round that goes on keeps: whatever lay ahead of the call; the iterator's variable; what holds a pair. -/
structure KeepIt (n₀ Bb : Nat) (W W' : World) : Prop where
  below : Below n₀ W W'
  box : W'.heap[Bb]? = W.heap[Bb]?
  pair : ∀ (k : Nat) (cs : Array Value) (fz : Nat × Nat), W.heap[k]? = some (Obj.cells cs 61 fz) → W'.heap[k]? = some (Obj.cells cs 61 fz)

theorem keepIt_t {n₀ Bb : Nat} {A B C : World} (h : KeepIt n₀ Bb A B) (k : KeepIt n₀ Bb B C) : KeepIt n₀ Bb A C :=
  ⟨h.below.trans k.below, k.box.trans h.box, fun i cs fz hi => k.pair i cs fz (h.pair i cs fz hi)⟩

theorem keepIt_put {n₀ Bb : Nat} {W : World} {l : Nat} {o : Obj} (o' : Obj) (h : W.heap[l]? = some o) (hc : o.isCells = false) (hn : n₀ ≤ l) (hb : Bb ≠ l) : KeepIt n₀ Bb W (W.putObj l o') := by
  refine ⟨?_, World.putObj_heap_other hb, fun k cs fz hk => ?_⟩
  · exact (Below.refl n₀ W).trans ⟨rfl, rfl, rfl, by simp, fun k hk => World.putObj_heap_other (by omega)⟩
  · by_cases e : k = l
    · subst e
      rw [h] at hk
      cases hk
      cases hc
    · exact (World.putObj_heap_other e).trans hk

theorem set_pair {w : World} {b t : Nat} {x y : Value} {fz : Nat × Nat} (h : w.heap[b]? = some (.cells #[x, y] t fz)) (u v : Value) : ((w.setCell ⟨b, 0, none⟩ u).setCell ⟨b, 1, none⟩ v).heap[b]? = some (.cells #[u, v] t fz) := by
  simp [World.setCell, Array.getElem?_modify, h]

def itLeft (Bb : Nat) (p : Value) (wr : World) : Nat := if intOf p = 0 then 1 + (match wr.cell? ⟨Bb, 0, none⟩ with | some (.slice _ l _) => l | _ => 0) else 0

theorem itLeft_box {Bb t q cx : Nat} {ax : Option Addr} {wr : World} (h : Boxed wr Bb t (.slice ax q cx)) : itLeft Bb (.int .i64 0) wr = 1 + q := by
  simp [itLeft, intOf, h.cell]

theorem itLeft_end {Bb : Nat} {E : Int} {wr : World} (h : E ≠ 0) : itLeft Bb (.int .i64 E) wr = 0 := by
  simp [itLeft, intOf, h]

/-- Where the iterator stands. -/
structure ItAt (w : World) (zs : List Int) (len cap Bb : Nat) (pre : List Msg) (W : World) : Prop where
  fine : ∀ y ∈ pre, y.e = 0
  old : ∀ y ∈ pre, ∀ k, y.p.v.ownBlock = some k → k < W.heap.size
  le : total pre ≤ len
  box : ∃ ax cx, Boxed W Bb 22 (.slice ax (len - total pre) cx) ∧ len - total pre ≤ cx ∧ cx ≤ cap ∧ Seg w ax (zs.drop (total pre)) ∧ (ax = none → len - total pre = 0 ∧ cx = 0)
  below : Below w.heap.size w W

set_option maxRecDepth 100000 in
set_option maxHeartbeats 2000000 in
theorem msgs1_in (n l Bb : Nat) (hn : 2 ≤ n) (w : World) (zs : List Int) (len cap : Nat) (hz : zs.length = len) (hb : Byt zs) (hm : cap ≤ 9223372036854775807) (hBb : w.heap.size ≤ Bb) (J Jx : List Msg → World → Prop)
    (hJ : ∀ s A B, J s A → A.grownBy B (some Bb) → J s B) (hJx : ∀ s A B, Jx s A → A.grownBy B (some Bb) → Jx s B)
    (hY : ∀ pre x W, J pre W → Told zs Bb pre x W → YieldAt Fence.wide (n - 1) Tryd.prog l x.encs W fun e W' =>
      (e = .returned (.bool true) ∧ J (pre ++ [x]) W' ∧ KeepIt w.heap.size Bb W W') ∨ (e = .returned (.bool false) ∧ Jx (pre ++ [x]) W'))
    (W : World) (hW : ItAt w zs len cap Bb [] W) (h0 : J [] W) :
    CallsIn Fence.wide n Tryd.prog 66 #[.func (.yield l) #[] #[], .pointer (some ⟨Bb, 0, none⟩)] W fun e W' => (∃ v, e = .returned v) ∧
      ((∃ xs : List Msg, (∃ x ∈ xs, x.e ≠ 0) ∧ J xs W') ∨ (∃ pre, True ∧ Jx pre W')) := by
  refine callsIn_of_wp Tryd.func66 rfl trivial ?_ rfl
  simp only [Tryd.ntmps66, List.size_toArray, List.length_cons, List.length_nil, Nat.reduceAdd, Nat.reduceSub, Array.replicate_succ, Array.replicate_zero, List.push_toArray, List.append_toArray, List.nil_append, List.cons_append]
  gi_wp2
  gi_loopw [3] (fun p wr => ∃ (pre : List Msg) (e : Int), p = .int .i64 e ∧ J pre wr ∧ ((e ≠ 0 ∧ ∃ x ∈ pre, x.e ≠ 0) ∨ (e = 0 ∧ ItAt w zs len cap Bb pre wr))) (fun p wr => itLeft Bb p wr)
  case atStart => exact ⟨[], 0, rfl, h0, .inr ⟨rfl, hW⟩⟩
  case round =>
    obtain ⟨pre, e, rfl, hJs, (⟨he, hx⟩ | ⟨rfl, hit⟩)⟩ := hrel
    · have hee : (e == 0) = false := by simp [he]
      gi_wp2
      go_end0
      exact ⟨⟨_, rfl⟩, .inl ⟨pre, hx, hJs⟩⟩
    · obtain ⟨ax, cx, hbx, hlx, hcx, hsx, hnx⟩ := hit.box
      have hcell := (hbx.alloc (.cells #[.slice none 0 0, .int .i64 0] 61)).cell
      obtain ⟨tp, htp⟩ : ∃ tp, total pre = tp := ⟨_, rfl⟩
      have hle := hit.le
      rw [htp] at hbx hlx hsx hnx hcell hle
      obtain ⟨q, hq⟩ : ∃ q, len - tp = q := ⟨_, rfl⟩
      rw [hq] at hbx hlx hnx hcell
      gi_wp2_with fail
      have hB1 : Below w.heap.size w (wr.alloc (.cells #[.slice none 0 0, .int .i64 0] 61)) := hit.below.alloc hit.below.size _
      refine ⟨trivial, fun _ => by omega, ?_⟩
      refine (callsIn_wide.2 (mget_any ax q cx (zs.drop tp) _ hlx (by omega) (by rw [List.length_drop, hz]; exact hq) (byt_drop hb tp) (hsx.below hB1) hnx)).mono ?_
      rintro e w2 ⟨v, rfl, hown, hB2⟩
      have hf0 : (wr.alloc (.cells #[.slice none 0 0, .int .i64 0] 61)).heap[wr.heap.size]? = some (.cells #[.slice none 0 0, .int .i64 0] 61) := World.alloc_heap_new _ _
      have hws : (wr.alloc (.cells #[.slice none 0 0, .int .i64 0] 61)).heap.size = wr.heap.size + 1 := by simp
      have hbx1 := hbx.alloc (.cells #[.slice none 0 0, .int .i64 0] 61)
      have hg1 : wr.grownBy (wr.alloc (.cells #[.slice none 0 0, .int .i64 0] 61)) none := World.grownBy_alloc wr _ none
      generalize wr.alloc (.cells #[.slice none 0 0, .int .i64 0] 61) = w1 at *
      have hlt := hbx.lt
      have hf2 : w2.heap[wr.heap.size]? = some (.cells #[.slice none 0 0, .int .i64 0] 61) := (hB2.block _ (by omega)).trans hf0
      have hbx2 : Boxed w2 Bb 22 (.slice ax q cx) := hbx1.kept (grown_below hB2 none) (by simp)
      have hc20 : w2.cell? ⟨wr.heap.size, 0, none⟩ = some (.slice none 0 0) := by simp [World.cell?, hf2]
      have hc21 : w2.cell? ⟨wr.heap.size, 1, none⟩ = some (.int .i64 0) := by simp [World.cell?, hf2]
      have hz20 : w2.frozen? ⟨wr.heap.size, 0, none⟩ = false := by simp [World.frozen?, hf2]
      have hz21 : w2.frozen? ⟨wr.heap.size, 1, none⟩ = false := by simp [World.frozen?, hf2]
      have hmg : Hid (mg 65536 (zs.drop tp) = ((mg 65536 (zs.drop tp)).1, (mg 65536 (zs.drop tp)).2.1, (mg 65536 (zs.drop tp)).2.2)) := rfl
      have hms := mg_size 65536 (zs.drop tp)
      have hmz := mg_zero 65536 (zs.drop tp)
      have hml := (mg_len 65536 (zs.drop tp)).1
      rw [List.length_drop, hz, hq] at hml
      generalize (mg 65536 (zs.drop tp)).1 = E at *
      generalize (mg 65536 (zs.drop tp)).2.1 = Z at *
      generalize (mg 65536 (zs.drop tp)).2.2 = L at *
      obtain ⟨av, cv, rfl, hsv, _⟩ := own_val hown rfl
      have hown3 : ((w2.setCell ⟨wr.heap.size, 0, none⟩ (.slice av Z.length cv)).setCell ⟨wr.heap.size, 1, none⟩ (.int .i64 (L : Nat))).ownsRow w1.heap.size 5 1 (.slice av Z.length cv) Z.length (Z.map (Value.int .u8)) :=
        ownsRow_setCell_below (ownsRow_setCell_below hown (a := ⟨wr.heap.size, 0, none⟩) (by simp; omega) _) (a := ⟨wr.heap.size, 1, none⟩) (by simp; omega) _
      have hB3 : Below wr.heap.size wr ((w2.setCell ⟨wr.heap.size, 0, none⟩ (.slice av Z.length cv)).setCell ⟨wr.heap.size, 1, none⟩ (.int .i64 (L : Nat))) :=
        ((((Below.refl _ wr).grown hg1 (Nat.le_refl _) (by simp)).trans (hB2.mono (by omega))).setCell (p := ⟨wr.heap.size, 0, none⟩) (Nat.le_refl _) _).setCell (p := ⟨wr.heap.size, 1, none⟩) (Nat.le_refl _) _
      have hf3 : ((w2.setCell ⟨wr.heap.size, 0, none⟩ (.slice av Z.length cv)).setCell ⟨wr.heap.size, 1, none⟩ (.int .i64 (L : Nat))).heap[wr.heap.size]? = some (.cells #[.slice av Z.length cv, .int .i64 (L : Nat)] 61) := set_pair hf2 _ _
      have hTold : Told zs Bb pre ⟨⟨av, Z.length, cv, Z⟩, L, E⟩ ((w2.setCell ⟨wr.heap.size, 0, none⟩ (.slice av Z.length cv)).setCell ⟨wr.heap.size, 1, none⟩ (.int .i64 (L : Nat))) :=
        ⟨by rw [htp]; exact hmg.out, hit.fine, by rw [htp, hz]; exact hle, w1.heap.size, by omega, fun y hy k hk => by have := hit.old y hy k hk; omega, rfl, hown3⟩
      obtain ⟨fn, tmps, assign, body, hy, hR⟩ := hY pre ⟨⟨av, Z.length, cv, Z⟩, L, E⟩ _ (hJ _ _ _ hJs (grown_below hB3 _)) hTold
      dsimp only [Msg.encs, Part.v] at hy
      gi_wp2_with fail
      have hlt3 : ∀ k, (Value.slice av Z.length cv).ownBlock = some k → k < ((w2.setCell ⟨wr.heap.size, 0, none⟩ (.slice av Z.length cv)).setCell ⟨wr.heap.size, 1, none⟩ (.int .i64 (L : Nat))).heap.size := fun k hk => (hown3.lt k hk).2
      refine ⟨fun _ => by omega, hR.mono ?_⟩
      clear hy hR hTold hown hown3
      generalize (w2.setCell ⟨wr.heap.size, 0, none⟩ (.slice av Z.length cv)).setCell ⟨wr.heap.size, 1, none⟩ (.int .i64 (L : Nat)) = W3 at *
      rintro e W4 (⟨rfl, hJ4, hk4⟩ | ⟨rfl, hJx4⟩)
      · have hbx4 : Boxed W4 Bb 22 (.slice ax q cx) := (hk4.box.trans (hB3.block Bb hlt)).trans hbx
        have hf4 := hk4.pair _ _ _ hf3
        have hc40 := hbx4.cell
        have hz40 := hbx4.frozen
        have hc41 : W4.cell? ⟨wr.heap.size, 1, none⟩ = some (.int .i64 (L : Nat)) := by simp [World.cell?, hf4]
        have hBl : Below w.heap.size w W4 := (hit.below.trans (hB3.mono hit.below.size)).trans hk4.below
        clear hc20 hc21 hz20 hz21 hcell hf0 hf2 hf3 hbx1 hbx2
        by_cases hE : E = 0
        · subst hE
          have hms := hms rfl
          rcases hsx with h0' | ⟨b, off, rfl, hc⟩
          · have := hms.1
            rw [h0'] at this
            simp at this
            omega
          · have hsx : Seg w (some ⟨b, off, none⟩) (zs.drop tp) := .inr ⟨b, off, rfl, hc⟩
            have hnew : ∀ ax' cx', q - L ≤ cx' → cx' ≤ cap → Seg w ax' (zs.drop (tp + L)) → ax' ≠ none → ItAt w zs len cap Bb (pre ++ [⟨⟨av, Z.length, cv, Z⟩, L, 0⟩]) (W4.setCell ⟨Bb, 0, none⟩ (.slice ax' (q - L) cx')) := by
              intro ax' cx' h1 h2 h3 h4
              have hql : len - (tp + L) = q - L := by omega
              refine ⟨fun y hy => ?_, fun y hy k hk => ?_, ?_, ⟨ax', cx', ?_, ?_, h2, ?_, fun e => absurd e h4⟩, hBl.setCell (p := ⟨Bb, 0, none⟩) hBb _⟩
              · rcases List.mem_append.1 hy with hy | hy
                · exact hit.fine y hy
                · obtain rfl := List.mem_singleton.1 hy
                  rfl
              · have hsz : (W4.setCell ⟨Bb, 0, none⟩ (.slice ax' (q - L) cx')).heap.size = W4.heap.size := by simp [World.setCell]
                have h34 := hk4.below.size
                have hr3 := hB3.size
                rw [hsz]
                rcases List.mem_append.1 hy with hy | hy
                · have := hit.old y hy k hk
                  omega
                · obtain rfl := List.mem_singleton.1 hy
                  have := hlt3 k hk
                  omega
              · rw [total_snoc, htp]
                show tp + L ≤ len
                omega
              · rw [total_snoc, htp, hql]
                exact hbx4.set _
              · rw [total_snoc, htp, hql]
                exact h1
              · rw [total_snoc, htp]
                exact h3
            have hLq : L ≤ q := by omega
            have hL4 : 4 ≤ L := by omega
            have hsd := hsx.drop L
            rw [List.drop_drop] at hsd
            clear hc
            by_cases hcl : cx = L
            · have hq0 : Hid (q - L = 0) := by show _ = _; omega
              obtain rfl : q = L := by omega
              obtain rfl : cx = q := by omega
              have hno : zs.drop (tp + cx) = [] := List.length_eq_zero_iff.1 (by rw [List.length_drop]; omega)
              have hn2 := hnew (some ⟨b, off, none⟩) 0 (by omega) (by omega) (.inl hno) (by simp)
              rw [Nat.sub_self] at hn2
              clear hnew hsd hno
              gi_wp2
              go_roundw
              case rel => exact ⟨_, 0, rfl, hJ _ _ _ hJ4 (grownBy_setCell' _ _ _), .inr ⟨rfl, hn2⟩⟩
              case measure =>
                show itLeft Bb (.int .i64 0) _ < itLeft Bb (.int .i64 0) wr
                rw [itLeft_box (hbx4.set _), itLeft_box hbx]
                omega
            · have hn2 := hnew (some ⟨b, off + L, none⟩) (cx - L) (by omega) (by omega) hsd (by simp)
              clear hnew hsd
              gi_wp2
              go_roundw
              case rel => exact ⟨_, 0, rfl, hJ _ _ _ hJ4 (grownBy_setCell' _ _ _), .inr ⟨rfl, hn2⟩⟩
              case measure =>
                show itLeft Bb (.int .i64 0) _ < itLeft Bb (.int .i64 0) wr
                rw [itLeft_box (hbx4.set _), itLeft_box hbx]
                omega
        · obtain ⟨_, rfl⟩ := hmz hE
          have hEE : (E == 0) = false := by simp [hE]
          cases ax with
          | none =>
            obtain ⟨rfl, rfl⟩ := hnx rfl
            gi_wp2
            go_roundw
            case rel => exact ⟨_, E, rfl, hJ _ _ _ hJ4 (grownBy_setCell' _ _ _), .inl ⟨hE, _, List.mem_append_right _ List.mem_cons_self, hE⟩⟩
            case measure =>
              show itLeft Bb (.int .i64 E) _ < itLeft Bb (.int .i64 0) wr
              rw [itLeft_end hE, itLeft_box hbx]
              omega
          | some ad =>
            gi_wp2
            go_roundw
            case rel => exact ⟨_, E, rfl, hJ _ _ _ hJ4 (grownBy_setCell' _ _ _), .inl ⟨hE, _, List.mem_append_right _ List.mem_cons_self, hE⟩⟩
            case measure =>
              show itLeft Bb (.int .i64 E) _ < itLeft Bb (.int .i64 0) wr
              rw [itLeft_end hE, itLeft_box hbx]
              omega
      · gi_wp2
        refine bodyPost_ret (results_none rfl _ _ _) rfl ?_
        exact ⟨⟨_, rfl⟩, .inr ⟨_, trivial, hJx4⟩⟩

set_option maxHeartbeats 1000000 in
theorem messages_in (n : Nat) (a : Option Addr) (len cap : Nat) (w : World) :
    CallsIn Fence.wide n Tryd.prog 47 #[.slice a len cap] w fun e w' => e = .returned (.func (.func 66) #[] #[.pointer (some ⟨w.heap.size, 0, none⟩)]) ∧ w' = w.alloc (.cells #[.slice a len cap] 22)   := by
  refine callsIn_of_wp Tryd.func47 rfl trivial ?_ rfl
  simp only [Tryd.ntmps47, List.size_toArray, List.length_cons, List.length_nil, Nat.reduceAdd, Nat.reduceSub, Array.replicate_succ, Array.replicate_zero, List.push_toArray, List.append_toArray, List.nil_append, List.cons_append]
  gi_wp2
  go_ret
  exact ⟨rfl, rfl⟩
end Go.Proofs.YtmjjoiljdcjhdaaDoor
