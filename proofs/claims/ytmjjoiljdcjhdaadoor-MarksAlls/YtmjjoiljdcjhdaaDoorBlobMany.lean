/- A Book that is told lists of bytes and then all messages of a list: what stays from call to call, and Apart of it. -/
import Derived.Test.YtmjjoiljdcjhdaaDoorBlobApart
import Derived.Test.YtmjjoiljdcjhdaaDoorBookMany
import Derived.Test.YtmjjoiljdcjhdaaDoorMsgLists
namespace Go.Proofs.YtmjjoiljdcjhdaaDoor
set_option linter.unusedVariables false
open Go.RowKit

/-- A Book that holds lists of bytes, and a list of messages in a block of its own beside it. -/
structure HX (w : World) (es : List Ent) (B : Nat) (i : Int) (vb : Value) (hs : List (Value × Value × Int)) (v : Value) (q : Nat) (xs : List Value) (W : World) : Prop where
  hd : Hd w es B i vb hs W
  x : W.ownsRow w.heap.size 22 1 v q xs

theorem HX.bytes {w : World} {es : List Ent} {B : Nat} {i : Int} {vb : Value} {hs : List (Value × Value × Int)} {v : Value} {q : Nat} {xs : List Value} {W : World} (h : HX w es B i vb hs v q xs W) (a : Option Addr) (len cap : Nat) (h0 : 0 ≤ i) (h1 : i ≤ 1000000) (hl : hs.length ≤ 1000000) :
    Calls Tryd.prog 13 #[.pointer (some ⟨B, 0, none⟩), .slice a len cap] W fun e W' => e = .returned (.tuple #[]) ∧ ∃ vb', HX w es B (i + 1) vb' (hs ++ [(.slice a len cap, .slice none 0 0, i + 1)]) v q xs W' := by
  refine (bytes_any B i vb hs w.heap.size a len cap W h.hd.book h.hd.row h.hd.kp.below.size h0 h1 hl).mono ?_
  rintro e W' ⟨rfl, vb', hb, hr, hk⟩
  exact ⟨rfl, vb', h.hd.step hb (by rw [List.length_append]; exact hr) hk, own_kept h.x hk (fun g hg hD => by
    rcases hD with rfl | hD
    · exact own_not h.x h.hd.book (by decide) hg
    · exact own_sep h.x h.hd.row (by decide) hg hD)⟩

/-- And then the list of messages is held, too. -/
structure HM (w : World) (es : List Ent) (B : Nat) (i : Int) (vb : Value) (gm cm : Nat) (hs : List (Value × Value × Int)) (v : Value) (q : Nat) (xs : List Value) (W : World) : Prop where
  kp : Kp w es W
  book : BookAt W B i vb (upd noRest 4 (.slice (some ⟨gm, 0, none⟩) 1 cm))
  row : W.ownsRow w.heap.size 64 3 vb hs.length (flat3 hs)
  rowM : W.ownsRow w.heap.size 75 3 (.slice (some ⟨gm, 0, none⟩) 1 cm) 1 (flat3 [(v, .slice none 0 0, i)])
  x : W.ownsRow w.heap.size 22 1 v q xs

theorem HX.blob {w : World} {es : List Ent} {B : Nat} {i : Int} {vb : Value} {hs : List (Value × Value × Int)} {av : Option Addr} {q cv : Nat} {xs : List Value} {W : World} (h : HX w es B i vb hs (.slice av q cv) q xs W) (h0 : 0 ≤ i) (h1 : i ≤ 1000000) :
    Calls Tryd.prog 48 #[.pointer (some ⟨B, 0, none⟩), .slice av q cv] W fun e W' => e = .returned (.tuple #[]) ∧ ∃ gm cm, HM w es B (i + 1) vb gm cm hs (.slice av q cv) q xs W' := by
  refine (keepM_any B i vb (.slice none 0 0) rfl [] w.heap.size av q cv W h.hd.book (World.ownsRow_nil _ _ _ _) h.hd.kp.below.size h0 h1 (by simp)).mono ?_
  rintro e W' ⟨rfl, vb', hb, hr, hk⟩
  replace hk : Kept (fun k => k = B) W W' := hk.mono (fun k _ hD => by
    rcases hD with hD | hD
    · exact hD
    · simp [Value.ownBlock] at hD)
  obtain ⟨gm, cm, rfl⟩ := own3_form hr (by omega)
  refine ⟨rfl, gm, cm, ⟨⟨h.hd.kp.below.trans (hk.below (fun b hD => by rw [hD]; exact h.hd.new) h.hd.kp.below.size), fun j hj => own_kept (h.hd.kp.lists j hj) hk (fun g hg hD => ?_)⟩, hb, own_kept h.hd.row hk (fun g hg hD => ?_), hr, own_kept h.x hk (fun g hg hD => ?_)⟩⟩
  · subst hD; exact own_not (h.hd.kp.lists j hj) h.hd.book (by decide) hg
  · subst hD; exact own_not h.hd.row h.hd.book (by decide) hg
  · subst hD; exact own_not h.x h.hd.book (by decide) hg

theorem HM.apart {w : World} {es : List Ent} {B : Nat} {i : Int} {vb : Value} {gm cm : Nat} {hs : List (Value × Value × Int)} {av : Option Addr} {q cv : Nat} {xs : List Value} {W : World} (h : HM w es B i vb gm cm hs (.slice av q cv) q xs W) (he : hs = es.map held0) (hA : Apt es) (hS : Small es) (hq : q ≤ 1073741824) (h0 : 0 ≤ i) (h1 : i ≤ 1000000) :
    Calls Tryd.prog 14 #[.pointer (some ⟨B, 0, none⟩)] W fun e W' => e = .returned (.bool true) ∧ Below w.heap.size w W' := by
  subst he
  refine (apartM_any B i vb es gm cm av q cv i xs w.heap.size W h.book (by have := h.row; rwa [List.length_map] at this) h.kp.lists hA hS h.rowM h.x hq h0 h1 h.kp.below.size).mono ?_
  rintro e W' ⟨rfl, hk⟩
  exact ⟨rfl, h.kp.below.trans (hk.below (fun b hD => by
    rcases hD with (⟨j, hj, hD⟩ | hD) | (hD | hD)
    · exact (own_lt (h.kp.lists j hj) hD).1
    · exact (own_lt h.row hD).1
    · exact (own_lt h.x hD).1
    · subst hD; exact (own_lt h.rowM rfl).1) h.kp.below.size)⟩

/-- One list and the messages behind it, as a Book counts them. -/
def entsOf (e0 : Ent) (ps : List Part) : List Ent := e0 :: ps.mapIdx fun j p => ⟨p.a, p.len, p.cap, ((j + 2 : Nat) : Int), p.zs⟩

theorem entsOf_len (e0 : Ent) (ps : List Part) : (entsOf e0 ps).length = ps.length + 1 := by simp [entsOf]
theorem entsOf_get (e0 : Ent) (ps : List Part) (k : Nat) (h : k < ps.length) : (entsOf e0 ps)[k + 1]'(by rw [entsOf_len]; omega) = ⟨ps[k].a, ps[k].len, ps[k].cap, ((k + 2 : Nat) : Int), ps[k].zs⟩ := by simp [entsOf]

theorem lists_of {base : Nat} {W : World} {e0 : Ent} {ps : List Part} (h0 : W.ownsRow base 5 1 e0.v e0.len (e0.xs.map (Value.int .u8))) (h : ∀ p ∈ ps, p.Own W base) : Lists base W (entsOf e0 ps) 0 := by
  intro j hj
  rw [if_neg (by omega)]
  cases j with
  | zero => exact h0
  | succ j =>
    rw [entsOf_len] at hj
    simp only [entsOf_get e0 ps j (by omega)]
    exact (h _ (List.getElem_mem (by omega))).2

theorem apt_ents {e0 : Ent} {ps : List Part} (h0 : ∀ p ∈ ps, ∀ g, e0.v.ownBlock = some g → p.v.ownBlock ≠ some g) (h : ps.Pairwise fun p q => ∀ k, p.v.ownBlock = some k → q.v.ownBlock ≠ some k) : Apt (entsOf e0 ps) := by
  have hp := List.pairwise_iff_getElem.1 h
  intro i j hi hj hij g hg hg2
  rw [entsOf_len] at hi hj
  cases i with
  | zero =>
    cases j with
    | zero => exact hij rfl
    | succ j =>
      rw [entsOf_get e0 ps j (by omega)] at hg2
      exact h0 _ (List.getElem_mem (by omega)) g hg hg2
  | succ i =>
    rw [entsOf_get e0 ps i (by omega)] at hg
    cases j with
    | zero => exact h0 _ (List.getElem_mem (by omega)) g hg2 hg
    | succ j =>
      rw [entsOf_get e0 ps j (by omega)] at hg2
      rcases Nat.lt_or_ge i j with hlt | hge
      · exact hp i j (by omega) (by omega) hlt g hg hg2
      · exact hp j i (by omega) (by omega) (by omega) g hg2 hg

theorem small_ents {e0 : Ent} {ps : List Part} (hl : e0.len ≤ 1073741824) (hn : e0.num = 1) (hp : ps.length ≤ 100000) (h : ∀ p ∈ ps, p.len ≤ 1073741824) : Small (entsOf e0 ps) := by
  refine ⟨by rw [entsOf_len]; omega, fun j hj => ?_⟩
  rw [entsOf_len] at hj
  cases j with
  | zero => exact ⟨hl, by show 0 ≤ e0.num; omega, by show e0.num ≤ 1000000; omega⟩
  | succ j =>
    simp only [entsOf_get e0 ps j (by omega)]
    exact ⟨h _ (List.getElem_mem (by omega)), by omega, by omega⟩

theorem take_held (e0 : Ent) (ps : List Part) (k : Nat) (h : k < ps.length) : ((entsOf e0 ps).take (k + 1)).map held0 ++ [(.slice ps[k].a ps[k].len ps[k].cap, .slice none 0 0, ((k + 2 : Nat) : Int))] = ((entsOf e0 ps).take (k + 1 + 1)).map held0 := by
  have hk : k + 1 < (entsOf e0 ps).length := by rw [entsOf_len]; omega
  rw [← List.take_append_getElem hk, List.map_append, entsOf_get e0 ps k h]
  rfl

set_option maxRecDepth 100000 in
set_option maxHeartbeats 2000000 in
theorem HX.messages {w : World} {e0 : Ent} {ps : List Part} {B : Nat} {vb : Value} {av : Option Addr} {q cv : Nat} {W : World} (h : HX w (entsOf e0 ps) B 1 vb (((entsOf e0 ps).take 1).map held0) (.slice av q cv) q (ps.map Part.v) W) (hq : ps.length = q) (hl : q ≤ 100000) :
    Calls Tryd.prog 20 #[.pointer (some ⟨B, 0, none⟩), .slice av q cv] W fun e W' => e = .returned (.tuple #[]) ∧ ∃ vb' gm cm, HM w (entsOf e0 ps) B ((q + 2 : Nat) : Int) vb' gm cm ((entsOf e0 ps).map held0) (.slice av q cv) q (ps.map Part.v) W' := by
  go_enter Tryd.func20, Tryd.ntmps20
  go_wp2
  go_loopw [4] (fun j wi => ∃ k : Nat, k ≤ q ∧ j = .int .i64 k ∧ ∃ vb', HX w (entsOf e0 ps) B ((k + 1 : Nat) : Int) vb' (((entsOf e0 ps).take (k + 1)).map held0) (.slice av q cv) q (ps.map Part.v) wi) (fun j _ => q - (intOf j).toNat)
  case atStart => exact ⟨0, by omega, rfl, vb, h⟩
  case round =>
    obtain ⟨k, hk, rfl, vb', hX⟩ := hrel
    clear h
    by_cases hlt : k < q
    · have hkp : k < ps.length := by omega
      obtain ⟨g, rfl⟩ := own_some hX.x (by omega)
      have hc : wr.cell? ⟨g, k, none⟩ = some (.slice ps[k].a ps[k].len ps[k].cap) := (hX.x.cellAt k (by omega)).trans (by rw [List.getElem?_map, List.getElem?_eq_getElem hkp]; rfl)
      have hti : (k : Int) < (q : Int) := by omega
      have hlen : ((((entsOf e0 ps).take (k + 1)).map held0)).length ≤ 1000000 := by rw [List.length_map, List.length_take]; omega
      have hnext := hX.bytes ps[k].a ps[k].len ps[k].cap (by omega) (by omega) hlen
      have hstep := take_held e0 ps k hkp
      rw [show ((k + 1 : Nat) : Int) + 1 = ((k + 2 : Nat) : Int) from by omega, hstep] at hnext
      clear hX hstep hlen
      generalize ps[k].a = pa at *
      generalize ps[k].len = pl at *
      generalize ps[k].cap = pc at *
      go_wp2_with fail
      refine hnext.mono ?_
      rintro e w1 ⟨rfl, vb2, hX2⟩
      clear hnext hc
      go_wp2
      go_roundw
      case rel => exact ⟨k + 1, by omega, by go_num, vb2, hX2⟩
      case measure => simp [intOf]; omega
    · obtain rfl : k = q := by omega
      have hfull : (entsOf e0 ps).take (k + 1) = entsOf e0 ps := List.take_of_length_le (by rw [entsOf_len]; omega)
      rw [hfull] at hX
      have hfin := hX.blob (by omega) (by omega)
      rw [show ((k + 1 : Nat) : Int) + 1 = ((k + 2 : Nat) : Int) from by omega] at hfin
      clear hX
      go_wp2_with fail
      refine hfin.mono ?_
      rintro e w1 ⟨rfl, gm, cm, hM⟩
      go_wp2
      go_end0
      exact ⟨rfl, vb', gm, cm, hM⟩
end Go.Proofs.YtmjjoiljdcjhdaaDoor
