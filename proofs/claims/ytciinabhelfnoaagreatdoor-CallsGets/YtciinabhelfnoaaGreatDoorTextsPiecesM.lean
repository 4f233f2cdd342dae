/- Texts: their bytes as numbers, '[]byte(s)' and 'string(b)'; nothing is claimed of the program here. -/
import Derived.Test.YtciinabhelfnoaaGreatDoorRows
import Derived.Test.YtciinabhelfnoaaGreatDoorBase
import Derived.Lib.ConvBytes
import Derived.ScopeJumps
namespace Go.Proofs.YtciinabhelfnoaaGreatDoor
set_option linter.unusedVariables false
open Go.RowKit

/-- A text's bytes. -/
def tz (s : ByteArray) : List Int := s.data.toList.map fun b => (b.toNat : Int)

theorem tz_len (s : ByteArray) : (tz s).length = s.size := by
  rw [tz, List.length_map, Array.length_toList]
  rfl

theorem tz_byt (s : ByteArray) : Byt (tz s) := by
  refine byt_of_all fun z hz => ?_
  obtain ⟨b, _, rfl⟩ := List.mem_map.1 hz
  have := b.toNat_lt
  omega

theorem tz_append (s t : ByteArray) : tz (s ++ t) = tz s ++ tz t := by simp [tz, ByteArray.data_append]

theorem str_tz (s : ByteArray) : strOfNums (tz s) = s := by
  cases s with
  | mk d => simp [strOfNums, tz, Function.comp_def]

theorem tz_str {zs : List Int} (h : Byt zs) : tz (strOfNums zs) = zs := by
  have e : ∀ z ∈ zs, (fun b : UInt8 => (b.toNat : Int)) (UInt8.ofNat z.toNat) = z := by
    intro z hz
    obtain ⟨i, hi, rfl⟩ := List.getElem_of_mem hz
    have h1 := h i
    rw [List.getElem?_eq_getElem hi, Option.getD_some] at h1
    show ((UInt8.ofNat zs[i].toNat).toNat : Int) = _
    rw [UInt8.toNat_ofNat']
    omega
  rw [tz, strOfNums_data, List.map_map]
  exact (List.map_congr_left e).trans (List.map_id' zs)

theorem str_inj {xs ys : List Int} (hx : Byt xs) (hy : Byt ys) (h : strOfNums xs = strOfNums ys) : xs = ys := by
  rw [← tz_str hx, ← tz_str hy, h]

theorem tz_inj {s t : ByteArray} (h : tz s = tz t) : s = t := by rw [← str_tz s, ← str_tz t, h]

theorem tz_at (s : ByteArray) (i : Nat) (hi : i < s.size) : (tz s)[i]? = some ((s[i]).toNat : Int) := by
  have hi' : i < s.data.toList.length := by rw [Array.length_toList]; exact hi
  rw [tz, List.getElem?_map, List.getElem?_eq_getElem hi']
  simp [ByteArray.getElem_eq_getElem_data]

theorem conv_below (w : World) (s : ByteArray) : Below w.heap.size w (Lib.bytesWorld w 5 s) :=
  ⟨rfl, rfl, rfl, by rw [Lib.bytesWorld_size]; omega, fun k hk => Lib.bytesWorld_at_old w _ s k hk⟩

theorem conv_seg (w : World) (s : ByteArray) : Seg (Lib.bytesWorld w 5 s) (some ⟨w.heap.size, 0, none⟩) (tz s) := by
  refine .inr ⟨_, _, rfl, fun i hi => ?_⟩
  rw [tz_len] at hi
  rw [Nat.zero_add, Lib.bytesWorld_cell w _ s i hi]
  have hi' : i < s.data.toList.length := by rw [Array.length_toList]; exact hi
  simp [tz, List.getD, List.getElem?_eq_getElem hi']

/-- '[]byte(s)': a new row with the text's bytes. -/
theorem conv_bytes (w : World) (s : ByteArray) (h : s.size ≤ 9223372036854775807) : ∃ c, s.size ≤ c ∧ c ≤ 9223372036854775807 ∧
    (convert 9 22 (.string s)).run Tryz.prog w = .ok (.slice (some ⟨w.heap.size, 0, none⟩) s.size c) (Lib.bytesWorld w 5 s) := by
  refine ⟨grownCap w s.size 0 5, grownCap_ge w _ 0 _, ?_, Lib.run_convert_string_bytes w 9 22 5 s Tryz.underlying9 Tryz.underlying22 Tryz.underlying5⟩
  have := grownCap_le_maxLen w s.size 0 5 (by unfold maxLen; omega)
  unfold maxLen at this
  omega

/-- 'string(b)', of any bytes. -/
theorem conv_text {w : World} {a : Option Addr} {n cap : Nat} {zs : List Int} (h : Seg w a zs) (hz : zs.length = n) :
    (convert 22 9 (.slice a n cap)).run Tryz.prog w = .ok (.string (strOfNums zs)) w := by
  rcases h with rfl | ⟨b, o, rfl, hc⟩
  · obtain rfl : n = 0 := by simpa using hz.symm
    rw [run_convert_bytes_string w 22 9 5 _ 0 cap Tryz.underlying22 Tryz.underlying5 Tryz.underlying9]
    cases a <;> simp [Conv.bytesToString, loadCells]
    all_goals rfl
  · exact run_convert_bytes_arg w 22 5 Tryz.underlying22 Tryz.underlying5 b o n cap zs hz (fun i hi => by rw [hc i (by omega)]; simp [List.getD]) 9 Tryz.underlying9
end Go.Proofs.YtciinabhelfnoaaGreatDoor

/- Pieces of bytes, slices that are owned, cells: plain words; nothing is claimed of the program here. -/
namespace Go.Proofs.YtciinabhelfnoaaGreatDoor
set_option linter.unusedVariables false
open Go.RowKit

theorem jump_ret {l : Nat} {J : Act → World → Prop} {Q : Exit → Act → World → Prop} {a : Act} {w : World} : Exit.jump l J Q .ret a w = Q .ret a w := rfl

theorem Seg.drop {w : World} {b off : Nat} {zs : List Int} (h : Seg w (some ⟨b, off, none⟩) zs) (n : Nat) : Seg w (some ⟨b, off + n, none⟩) (zs.drop n) := by
  rcases h with h | ⟨b', off', e, hc⟩
  · exact .inl (by simp [h])
  · cases e
    refine .inr ⟨_, _, rfl, fun i hi => ?_⟩
    rw [List.length_drop] at hi
    rw [List.getElem?_drop, Nat.add_assoc]
    exact hc (n + i) (by omega)

theorem Byt.drop {zs : List Int} (h : Byt zs) (n : Nat) : Byt (zs.drop n) := by
  intro i
  rw [List.getElem?_drop]
  exact h _

theorem own_empty (w : World) (base e : Nat) : w.ownsRow base e 1 (.slice none 0 0) 0 [] := ⟨rfl, .inl ⟨rfl, rfl⟩⟩

/-- A slice of bytes that lie somewhere. -/
structure Part where
  a : Option Addr
  len : Nat
  cap : Nat
  zs : List Int

def Part.v (p : Part) : Value := .slice p.a p.len p.cap

structure Part.In (p : Part) (w : World) : Prop where
  len : p.zs.length = p.len
  seg : Seg w p.a p.zs
  nil : p.a = none → p.len = 0 ∧ p.cap = 0

theorem own_low {w : World} {base e size n k : Nat} {v : Value} {xs : List Value} (h : w.ownsRow base e size v n xs) (hk : v.ownBlock = some k) : base ≤ k := by
  rcases h.2 with ⟨rfl, _⟩ | ⟨g, _, _, rfl, hg, _⟩
  · simp [Value.ownBlock] at hk
  · simp [Value.ownBlock] at hk
    omega

/-- What is owned is a slice of so many, and its bytes lie there. -/
theorem own_val {w : World} {base e n : Nat} {v : Value} {zs : List Int} (h : w.ownsRow base e 1 v n (zs.map (Value.int .u8))) (hz : zs.length = n) : ∃ a c, v = .slice a n c ∧ Seg w a zs ∧ n ≤ c ∧ c ≤ 9223372036854775807 ∧ (a = none → n = 0 ∧ c = 0) := by
  rcases h.2 with ⟨rfl, h0⟩ | ⟨g, cap, cur, rfl, hg, hh, h1, h2, r⟩
  · subst h0
    exact ⟨none, 0, rfl, .inl (List.length_eq_zero_iff.1 hz), by omega, by omega, fun _ => ⟨rfl, rfl⟩⟩
  · exact ⟨_, cap, rfl, seg_own h hz, h1, by unfold maxLen at h2; omega, by simp⟩

theorem cell_pair (w : World) (t : TypeId) (x y : Nat) : ∀ i, (h : i < [x, y].length) → (w.alloc (.cells #[.int .i64 (x : Int), .int .i64 (y : Int)] t)).cell? ⟨w.heap.size, i, none⟩ = some (.int .i64 ([x, y][i] : Nat)) := by
  intro i hi
  match i, hi with
  | 0, _ => simp
  | 1, _ => simp

theorem cell_lone (w : World) (t : TypeId) (x : Nat) : ∀ i, (h : i < [x].length) → (w.alloc (.cells #[.int .i64 (x : Int)] t)).cell? ⟨w.heap.size, i, none⟩ = some (.int .i64 ([x][i] : Nat)) := by
  intro i hi
  match i, hi with
  | 0, _ => simp
end Go.Proofs.YtciinabhelfnoaaGreatDoor
