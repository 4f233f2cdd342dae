/- 'fillByte' of a Book: each held list of bytes is filled with its mark; nothing else turns. -/
import Derived.Test.YtecbhhfncklefaaDoorBookKeep
import Derived.Deep.RegionHeld3
import Derived.Outline
namespace Go.Proofs.YtecbhhfncklefaaDoor
set_option linter.unusedVariables false
open Go.RowKit

/-- A list of bytes that a Book holds: where it lies, its length and room, its number, what it holds. -/
structure Ent where
  a : Option Addr
  len : Nat
  cap : Nat
  num : Int
  xs : List Int

def Ent.v (e : Ent) : Value := .slice e.a e.len e.cap
def Ent.marks (e : Ent) : List Int := List.replicate e.len (markOf e.num)

/-- The first i lists are filled with their marks, the others are as they were. -/
def Lists (base : Nat) (W : World) (es : List Ent) (i : Nat) : Prop :=
  ∀ (j : Nat) (hj : j < es.length), W.ownsRow base 5 1 es[j].v es[j].len ((if j < i then es[j].marks else es[j].xs).map (Value.int .u8))

/-- No two lie in one block. -/
def Apt (es : List Ent) : Prop := ∀ (i j : Nat) (hi : i < es.length) (hj : j < es.length), i ≠ j → ∀ g, es[i].v.ownBlock = some g → es[j].v.ownBlock ≠ some g

/-- Lengths and numbers are small. -/
def Small (es : List Ent) : Prop := es.length ≤ 300000 ∧ ∀ (j : Nat) (hj : j < es.length), es[j].len ≤ 1073741824 ∧ 0 ≤ es[j].num ∧ es[j].num ≤ 1000000

/-- The blocks of the lists. -/
def InLists (es : List Ent) (k : Nat) : Prop := ∃ (j : Nat) (hj : j < es.length), es[j].v.ownBlock = some k

/-- The Book's row. -/
def held0 (e : Ent) : Value × Value × Int := (e.v, .slice none 0 0, e.num)

theorem own_some {w : World} {base e : Nat} {a : Option Addr} {n cap : Nat} {xs : List Value} (h : w.ownsRow base e 1 (.slice a n cap) n xs) (hn : 0 < n) : ∃ g, a = some ⟨g, 0, none⟩ := by
  rcases h.2 with ⟨_, h0⟩ | ⟨g, cap', _, hv, _⟩
  · omega
  · cases hv; exact ⟨g, rfl⟩

theorem own_form {w : World} {base e size : Nat} {v : Value} {n : Nat} {xs : List Value} (h : w.ownsRow base e size v n xs) : ∃ a cap, v = .slice a n cap := by
  rcases h.2 with ⟨hv, h0⟩ | ⟨g, cap', _, hv, _⟩
  · subst h0; exact ⟨_, _, hv⟩
  · exact ⟨_, _, hv⟩

theorem own3_form {w : World} {base e : Nat} {v : Value} {n : Nat} {xs : List Value} (h : w.ownsRow base e 3 v n xs) (hn : 0 < n) : ∃ g cap, v = .slice (some ⟨g, 0, none⟩) n cap := by
  rcases h.2 with ⟨_, h0⟩ | ⟨g, cap', _, hv, _⟩
  · omega
  · exact ⟨g, cap', hv⟩

theorem lists_step {base : Nat} {w w' : World} {es : List Ent} {k : Nat} (hk : k < es.length) (hL : Lists base w es k) (hA : Apt es) (hK : Kept (fun b => es[k].v.ownBlock = some b) w w')
    (ho : w'.ownsRow base 5 1 es[k].v es[k].len (es[k].marks.map (Value.int .u8))) : Lists base w' es (k + 1) := by
  intro j hj
  by_cases hjk : j = k
  · subst hjk
    rw [if_pos (by omega)]
    exact ho
  · have := own_kept (hL j hj) hK (fun g hg hg2 => hA j k hj hk hjk g hg hg2)
    by_cases hlt : j < k
    · rw [if_pos (by omega)]
      rwa [if_pos hlt] at this
    · rw [if_neg (by omega)]
      rwa [if_neg hlt] at this

theorem fill_set (m : Int) (xs : List Int) (t : Nat) (ht : t < xs.length) : ((List.replicate t m ++ xs.drop t).map (Value.int .u8)).set t (.int .u8 m) = (List.replicate (t + 1) m ++ xs.drop (t + 1)).map (Value.int .u8) := by
  rw [List.map_append, List.set_append_right _ _ (by simp), List.drop_eq_getElem_cons ht, List.map_cons, List.length_map, List.length_replicate, Nat.sub_self, List.set_cons_zero, List.replicate_succ', List.append_assoc, List.map_append]
  rfl

theorem fill_get (m : Int) (xs : List Int) (t : Nat) (ht : t < xs.length) : ((List.replicate t m ++ xs.drop t).map (Value.int .u8))[t]? = some (.int .u8 (xs[t])) := by
  rw [List.map_append, List.getElem?_append_right (by simp), List.drop_eq_getElem_cons ht]
  simp

set_option maxRecDepth 100000 in
set_option maxHeartbeats 2000000 in
theorem fill_any {r : Nat → Value} (B : Nat) (n : Int) (vb : Value) (es : List Ent) (base : Nat) (W : World) (hb : BookAt W B n vb r)
    (hown : W.ownsRow base 91 3 vb es.length (flat3 (es.map held0))) (hL : Lists base W es 0) (hA : Apt es) (hS : Small es) (hbase : base ≤ W.heap.size) :
    Calls Tryd.prog 41 #[.pointer (some ⟨B, 0, none⟩)] W fun e W' => e = .returned (.tuple #[]) ∧ Lists base W' es es.length ∧ Kept (InLists es) W W' := by
  have hsepB : ¬ InLists es B := fun ⟨j, hj, h⟩ => own_not (hL j hj) hb (by decide) h
  have hsepV : ∀ g, vb.ownBlock = some g → ¬ InLists es g := fun g hg ⟨j, hj, h⟩ => own_sep hown (hL j hj) (by decide) hg h
  have hlen := hS.1
  go_enter Tryd.func41, Tryd.ntmps41
  go_wp2
  go_loopw [2] (fun i wr => ∃ k : Nat, k ≤ es.length ∧ i = .int .i64 k ∧ Lists base wr es k ∧ Kept (InLists es) W wr) (fun i _ => es.length - (intOf i).toNat)
  case atStart => exact ⟨0, by omega, rfl, hL, Kept.refl _ _⟩
  case round =>
    obtain ⟨k, hk, rfl, hLr, hKr⟩ := hrel
    have hbr := hb.kept hKr hsepB
    have hownr := own_kept hown hKr hsepV
    have c1 := hbr.cell1
    by_cases hlt : k < es.length
    · obtain ⟨gb, capb, rfl⟩ := own3_form hownr (by omega)
      have hget := flat3_get (es.map held0) k (by simpa using hlt)
      rw [List.getElem_map] at hget
      have d0 := (hownr.cellAt (k * 3) (by omega)).trans hget.1
      have d1 := (hownr.cellAt (k * 3 + 1) (by omega)).trans hget.2.1
      have d2 := (hownr.cellAt (k * 3 + 1 + 1) (by omega)).trans hget.2.2
      have hek := hLr k hlt
      rw [if_neg (by omega)] at hek
      have hsm := hS.2 k hlt
      clear hget
      obtain ⟨ea, el, ec, en, ex, hE⟩ : ∃ ea el ec en ex, es[k] = ⟨ea, el, ec, en, ex⟩ := ⟨_, _, _, _, _, rfl⟩
      rw [hE] at d0 d1 d2 hek hsm
      have HE : Hid (es[k] = ⟨ea, el, ec, en, ex⟩) := hE
      clear hE
      simp only [held0, Ent.v] at d0 d1 d2 hek
      have hki : (k : Int) < (es.length : Int) := by omega
      have hxl : ex.length = el := by have := hek.1; simpa using this
      have hs1 : el ≤ 1073741824 := hsm.1
      have hs2 : 0 ≤ en := hsm.2.1
      have hs3 : en ≤ 1000000 := hsm.2.2
      have hBlk : ∀ b, (.slice ea el ec : Value).ownBlock = some b → b < wr.heap.size := fun b hb => (own_lt hek hb).2
      clear hsm
      go_wp2
      have q0 : (wr.alloc (.cells #[.slice ea el ec, .slice none 0 0, .int .i64 en] 91)).cell? ⟨wr.heap.size, 0, none⟩ = some (.slice ea el ec) := by simp
      have q2 : (wr.alloc (.cells #[.slice ea el ec, .slice none 0 0, .int .i64 en] 91)).cell? ⟨wr.heap.size, 2, none⟩ = some (.int .i64 en) := by simp
      have ho2 := hek.alloc (.cells #[.slice ea el ec, .slice none 0 0, .int .i64 en] 91)
      have hK2 : Kept (fun b => (.slice ea el ec : Value).ownBlock = some b) wr (wr.alloc (.cells #[.slice ea el ec, .slice none 0 0, .int .i64 en] 91)) := (Kept.refl _ _).alloc _
      have hsz2 : wr.heap.size < (wr.alloc (.cells #[.slice ea el ec, .slice none 0 0, .int .i64 en] 91)).heap.size := by simp
      generalize wr.alloc (.cells #[.slice ea el ec, .slice none 0 0, .int .i64 en] 91) = W2 at q0 q2 ho2 hK2 hsz2 ⊢
      have hne : (.slice ea el ec : Value).ownBlock ≠ some wr.heap.size := fun h => by have := hBlk _ h; omega
      clear d0 d1 d2 hek c1 hbr hownr hBlk
      obtain ⟨wo, hwo⟩ : ∃ wo : World, wo = wr := ⟨_, rfl⟩
      rw [← hwo] at hLr hKr q0 q2 hK2 hsz2 hne
      subst hwo
      generalize wo.heap.size = H at *
      go_loopw [4] (fun j wi => ∃ t : Nat, t ≤ el ∧ j = .int .i64 t ∧ wi.ownsRow base 5 1 (.slice ea el ec) el ((List.replicate t (markOf en) ++ ex.drop t).map (Value.int .u8)) ∧ Kept (fun b => (.slice ea el ec : Value).ownBlock = some b) W2 wi) (fun j _ => el - (intOf j).toNat)
      case atStart => exact ⟨0, by omega, rfl, by simpa using ho2, Kept.refl _ _⟩
      case round =>
        obtain ⟨t, ht, rfl, hot, hKt⟩ := hrel
        have r0 : wr.cell? ⟨H, 0, none⟩ = some (.slice ea el ec) := (hKt.cell (p := ⟨H, 0, none⟩) hsz2 hne).trans q0
        have r2 : wr.cell? ⟨H, 2, none⟩ = some (.int .i64 en) := (hKt.cell (p := ⟨H, 2, none⟩) hsz2 hne).trans q2
        by_cases htl : t < el
        · obtain ⟨g, rfl⟩ := own_some hot (by omega)
          have hct : wr.cell? ⟨g, t, none⟩ = some (.int .u8 (ex[t]'(by omega))) := (hot.cellAt t (by omega)).trans (fill_get _ _ _ (by omega))
          have hft := hot.frozenAt t
          have hst := hot.stored t (.int .u8 (markOf en))
          rw [fill_set _ _ _ (by omega)] at hst
          have hgH : g ≠ H := fun e => hne (by rw [e]; rfl)
          have hti : (t : Int) < (el : Int) := by omega
          have ht0 : (0 : Int) ≤ (t : Int) := by omega
          generalize (ex[t]'(by omega)) = x at hct
          clear hot q0 q2 ho2
          go_wp2_with fail
          go_region_held3 (fun w' => w'.cell? ⟨H, 0, none⟩ = some (.slice (some ⟨g, 0, none⟩) el ec) ∧ w'.cell? ⟨H, 2, none⟩ = some (.int .i64 en)) (go_keep) (first
            | (go_at_call 82; refine (mark_any en _ hs2 hs3).mono ?_; rintro e w' ⟨rfl, rfl⟩))
          go_wp2
          go_roundw
          case rel => exact ⟨t + 1, by omega, by go_num, hst.1.drew, (hKt.setCell (p := ⟨g, t, none⟩) (.inl rfl) _).drew⟩
          case measure => simp [intOf]; omega
        · obtain rfl : t = el := by omega
          rw [List.drop_eq_nil_of_le (by omega), List.append_nil] at hot
          have hfin : Lists base wr es (k + 1) := lists_step hlt hLr hA (by rw [HE.out]; exact hK2.trans hKt) (by rw [HE.out]; exact hot)
          have hKf : Kept (InLists es) W wr := hKr.trans ((hK2.trans hKt).mono (fun b _ hb => ⟨k, hlt, by rw [HE.out]; exact hb⟩))
          go_wp2
          go_roundw
          case rel => exact ⟨k + 1, by omega, by go_num, hfin, hKf⟩
          case measure => simp [intOf]; omega
    · obtain rfl : k = es.length := by omega
      obtain ⟨av, cv, rfl⟩ := own_form hownr
      go_wp2
      go_end0
      exact ⟨rfl, hLr, hKr⟩
end Go.Proofs.YtecbhhfncklefaaDoor
