/- The walk of 'CredsBack': true for any stamp, any machine, anybody; nothing that was there turns. -/
import Derived.Test.YtmanblfmdpdfoaaAgainCr
import Derived.Maps.AppendAt
import Derived.Deep.AppendLies
namespace Go.Proofs.Ytmanblfmdpdfoaa
set_option linter.unusedVariables false
open Go.RowKit

/-- Who calls in a box, and the bytes that were put. -/
structure Bk (w : World) (u g : Int) (s : Value) (vb : Value) (bs : List Int) (W : World) : Prop where
  below : Below w.heap.size w W
  cred : W.heap[w.heap.size]? = some (.cells #[.int .u32 u, .int .u32 g, s] 25)
  own : W.ownsRow (w.heap.size + 1) 5 1 vb bs.length (bs.map (Value.int .u8))

theorem Bk.next {w : World} {u g : Int} {s vb : Value} {bs : List Int} {W W' : World} (h : Bk w u g s vb bs W) (hb : Below W.heap.size W W') : Bk w u g s vb bs W' :=
  ⟨h.below.trans (hb.mono h.below.size), (hb.block _ (Array.getElem?_eq_some_iff.1 h.cred).1).trans h.cred, own_below h.own hb⟩

/-- The box alone. -/
structure Bx (w : World) (u g : Int) (s : Value) (W : World) : Prop where
  below : Below w.heap.size w W
  cred : W.heap[w.heap.size]? = some (.cells #[.int .u32 u, .int .u32 g, s] 25)
theorem Bx.next {w : World} {u g : Int} {s : Value} {W W' : World} (h : Bx w u g s W) (hb : Below W.heap.size W W') : Bx w u g s W' :=
  ⟨h.below.trans (hb.mono h.below.size), (hb.block _ (Array.getElem?_eq_some_iff.1 h.cred).1).trans h.cred⟩
theorem Bx.alloc {w : World} {u g : Int} {s : Value} {W : World} (h : Bx w u g s W) (o : Obj) : Bx w u g s (W.alloc o) := h.next ((Below.refl _ _).alloc (Nat.le_refl _) _)
theorem Bx.start (w : World) (u g : Int) (s : Value) : Bx w u g s (w.alloc (.cells #[.int .u32 u, .int .u32 g, s] 25)) := ⟨(Below.refl _ _).alloc (Nat.le_refl _) _, heap_alloc_new w _⟩
theorem Bx.lt {w : World} {u g : Int} {s : Value} {W : World} (h : Bx w u g s W) : w.heap.size + 1 ≤ W.heap.size := (Array.getElem?_eq_some_iff.1 h.cred).1

theorem news_last (w : World) (o : Obj) (t : TypeId) (x : Value) : ∀ j u, [x][j]? = some u → ((w.alloc o).alloc (.cells #[x] t)).cell? ((⟨w.heap.size + 1, 0, none⟩ : Addr).add j) = some u := by
  have := World.news_of_block (w := (w.alloc o).alloc (.cells #[x] t)) (B := w.heap.size + 1) (cs := #[x]) (t := t) (fr := (0, 0)) (by have h := heap_alloc_new (w.alloc o) (.cells #[x] t); simpa using h)
  simpa using this

set_option maxRecDepth 100000 in
set_option maxHeartbeats 2000000 in
theorem cback_walk (stamp : Int) (m : ByteArray) (u g : Int) (a : Option Addr) (len cap : Nat) (gs : List Int) (w : World) (hst : 0 ≤ stamp ∧ stamp ≤ 4294967295) (hm : m.size ≤ 140737488351232) (hu : 0 ≤ u ∧ u ≤ 4294967295) (hg : 0 ≤ g ∧ g ≤ 4294967295) (hlc : len ≤ cap) (hcm : cap ≤ 140737488351232)
    (hz : gs.length = len) (hgs : U32s gs) (hs : Seg4 w a gs) :
    Calls Try.prog 4 #[.int .u32 stamp, .string m, .agg #[.int .u32 u, .int .u32 g, .slice a len cap]] w fun e w' => e = .returned (.bool true) ∧ Below w.heap.size w w' := by
  obtain ⟨i0, hi, hz0, hz1', hz2⟩ := info_parts infoB
  have X0 := Bx.start w u g (.slice a len cap)
  cases hbey : beyond 0 [m.size, len] with
  | true =>
    go_enter Try.func4, Try.ntmps4
    go_wp2_with fail
    generalize w.alloc (.cells #[.int .u32 u, .int .u32 g, .slice a len cap] 25) = w0 at *
    refine (alive_any w0).mono ?_
    rintro e w1 ⟨rfl, hb1⟩
    have X1 := X0.next hb1
    clear X0 hb1
    obtain ⟨_, _, c2, _, _, _⟩ := cred_at X1.cred
    go_wp2_with fail
    refine (beyond_any [m.size, len] _ 2 _ rfl (by omega) (by intro n hn; simp at hn; omega) (cell_pair w1 3 m.size len)).mono ?_
    rintro e w' ⟨rfl, rfl⟩
    rw [hbey]
    have X2 := X1.alloc (.cells #[.int .i64 (m.size : Int), .int .i64 (len : Int)] 3)
    generalize w1.alloc (.cells #[.int .i64 (m.size : Int), .int .i64 (len : Int)] 3) = w2 at *
    clear X1 c2
    go_wp2_with fail
    refine (alive_any _).mono ?_
    rintro e w3 ⟨rfl, hb3⟩
    have X3 := X2.next hb3
    go_wp2
    go_ret
    exact ⟨rfl, X3.below⟩
  | false =>
    have hl1 := beyond_le hbey (n := m.size) (by simp)
    have hl2 := beyond_le hbey (n := len) (by simp)
    go_enter Try.func4, Try.ntmps4
    go_wp2_with fail
    generalize w.alloc (.cells #[.int .u32 u, .int .u32 g, .slice a len cap] 25) = w0 at *
    refine (alive_any w0).mono ?_
    rintro e w1 ⟨rfl, hb1⟩
    have X1 := X0.next hb1
    clear X0 hb1
    obtain ⟨_, _, c2, _, _, _⟩ := cred_at X1.cred
    go_wp2_with fail
    refine (beyond_any [m.size, len] _ 2 _ rfl (by omega) (by intro n hn; simp at hn; omega) (cell_pair w1 3 m.size len)).mono ?_
    rintro e w' ⟨rfl, rfl⟩
    rw [hbey]
    have X2 := X1.alloc (.cells #[.int .i64 (m.size : Int), .int .i64 (len : Int)] 3)
    generalize w1.alloc (.cells #[.int .i64 (m.size : Int), .int .i64 (len : Int)] 3) = w2 at *
    clear X1 c2 hbey
    obtain ⟨c0, c1, c2, _, _, _⟩ := cred_at X2.cred
    go_wp2_with fail
    by_cases hno : 255 < m.size ∨ 16 < len
    · refine (cput_no stamp m u g a len cap w2 (by omega) (by omega) hno).mono ?_
      rintro e w3 ⟨rfl, hb3⟩
      have X3 := X2.next hb3
      clear X2 hb3 c0 c1 c2
      obtain ⟨_, _, c2, _, _, _⟩ := cred_at X3.cred
      by_cases h1 : 255 < m.size
      · go_wp2
        go_ret
        exact ⟨by simp, X3.below⟩
      · have h2 : 16 < len := by omega
        have h1' : decide (255 < (m.size : Int)) = false := by simp; omega
        have h2' : decide (16 < (len : Int)) = true := by simp; omega
        go_wp2
        go_ret
        exact ⟨by simp, X3.below⟩
    · refine (cput_yes stamp m u g a len cap gs w2 (by omega) (by omega) hst hu hg hz hgs (hs.below X2.below)).mono ?_
      rintro e w3 ⟨v3, rfl, ho3, hb3⟩
      have hok : CrOk stamp (tz m) u g gs := ⟨hst, hu, hg, fun x hx => by
        obtain ⟨i, hi, rfl⟩ := List.getElem_of_mem hx
        have := hgs i
        rwa [List.getElem?_eq_getElem hi, Option.getD_some] at this, by rw [tz_len]; omega, by omega⟩
      have hbyt : Byt (credB stamp (tz m) u g gs) := byt_credB stamp (tz_byt m) u g gs
      have hlen := credB_length stamp (tz m) u g gs
      rw [tz_len, hz] at hlen
      have hpad := padN_lt m.size
      have hshort := cr_short stamp (tz m) u g gs hok
      have hput := cr_put stamp (tz m) u g gs [] hok
      have hput0 := (cr_put stamp (tz m) u g gs [0] hok).1
      rw [List.append_nil, if_pos rfl] at hput
      rw [if_neg (by simp)] at hput0
      have h4 : (m.size + padN m.size) % 4 = 0 := padN_four m.size
      have K3 : Bk w u g (.slice a len cap) v3 (credB stamp (tz m) u g gs) w3 := ⟨(X2.next hb3).below, (X2.next hb3).cred, own_base ho3 X2.lt⟩
      clear ho3 hb3 X2 c0 c1 c2
      generalize hB : credB stamp (tz m) u g gs = B at *
      clear hB
      obtain ⟨gb, cb, rfl, hcb, hcb2, hgb⟩ := own_shape K3.own (by omega)
      have hL0 : 0 < B.length := by omega
      have hL1 : B.length ≤ 400 := by omega
      have hL4 : (B.length : Int) % 4 = 0 := by omega
      clear hlen hpad h4 hno
      go_wp2_with fail
      go_loopw [9] (fun i wr => ∃ k : Nat, k ≤ B.length ∧ i = .int .i64 k ∧ Bk w u g (.slice a len cap) (.slice (some ⟨gb, 0, none⟩) B.length cb) B wr) (fun i _ => B.length - (intOf i).toNat)
      case atStart => exact ⟨0, by omega, rfl, K3⟩
      case round =>
        obtain ⟨k, hk, rfl, K⟩ := hrel
        clear K3
        by_cases hlt : k < B.length
        · have hsh := hshort k hlt
          have hbt := hbyt.take k
          have hsg := (seg_own K.own rfl).take k
          have hlk : (B.take k).length = k := by rw [List.length_take]; omega
          have hgt := cget_any (some ⟨gb, 0, none⟩) k cb (B.take k) wr (by omega) hcb2 hlk hbt hsg
          unfold cgPost at hgt
          rw [hsh] at hgt
          generalize B.take k = Z at *
          clear hsh hbt hsg hlk
          go_wp2_with fail
          refine hgt.mono ?_
          rintro e w4 ⟨v4, rfl, ho4, hb4⟩
          have K4 := K.next hb4
          obtain ⟨a4, k4, rfl, _, _, _, _⟩ := own_val4 ho4 rfl
          clear hgt ho4 hb4 K
          have K5 := K4.next ((Below.refl _ _).alloc (Nat.le_refl _) (.cells #[.int .u32 (cgU Z), .int .u32 (cgG Z), .slice a4 (cgL Z).length k4] 25))
          go_wp2
          go_roundw
          case rel => exact ⟨k + 1, by omega, by go_num, K5⟩
          case measure => simp [intOf]; omega
        · obtain rfl : k = B.length := by omega
          have hgt := cget_any (some ⟨gb, 0, none⟩) B.length cb B wr hcb hcb2 rfl hbyt (seg_own K.own rfl)
          unfold cgPost at hgt
          obtain ⟨q0, q1, q2, q3, q4, q5⟩ := hput
          rw [cgS, cgM, cgU, cgG, cgL, if_pos q0, if_pos q0, if_pos q0, if_pos q0, if_pos q0, q0, q1, q2, q3, q4, q5, str_tz] at hgt
          clear q0 q1 q2 q3 q4 q5 hshort
          go_wp2_with fail
          refine hgt.mono ?_
          rintro e w4 ⟨v4, rfl, ho4, hb4⟩
          have K4 := K.next hb4
          rw [hz] at ho4
          obtain ⟨a4, k4, rfl, _, _, _, _⟩ := own_val4 ho4 hz
          have ho4' := own_base ho4 K.below.size
          clear hgt ho4 hb4 K
          have hb5 : Below w4.heap.size w4 (w4.alloc (.cells #[.int .u32 u, .int .u32 g, .slice a4 len k4] 25)) := (Below.refl _ _).alloc (Nat.le_refl _) _
          have hd5 : (w4.alloc (.cells #[.int .u32 u, .int .u32 g, .slice a4 len k4] 25)).heap[w4.heap.size]? = some (.cells #[.int .u32 u, .int .u32 g, .slice a4 len k4] 25) := heap_alloc_new w4 _
          have K5 := K4.next hb5
          have ho5 := own_below ho4' hb5
          have hnb : w4.heap.size ≠ gb := fun e => by have := own_lt K4.own (g := gb) rfl; omega
          clear K4 ho4'
          have hdo : ∀ gx, (Value.slice a4 len k4).ownBlock = some gx → gx ≠ gb := fun gx hgx e => own_sep ho5 K5.own (by decide) hgx (by rw [e]; rfl)
          have hB5 := K5.below
          go_wp2_with (at_builtin; refine wpList_append_own _ rfl _ _ 32 rfl (w.heap.size + 1) 5 i0 (.int .u8 0) 1 1 Try.underlying32 hi hz0 hz1' hz2 rfl (by decide) (.slice (some ⟨gb, 0, none⟩) B.length cb) B.length _ rfl (K5.own.alloc _) ⟨w4.heap.size + 1, 0, none⟩ 1 1 [.int .u8 0] rfl rfl (news_last w4 _ _ _) (by simp [Value.oneCell']) (by unfold maxLen; omega) (by omega) (by have := hB5.size; simp at this ⊢; omega) ?_; intro v' w7 hown7 hgrow7 _)
          have X6 : Bx w u g (.slice a len cap) ((w4.alloc (.cells #[.int .u32 u, .int .u32 g, .slice a4 len k4] 25)).alloc (.cells #[.int .u8 0] 5)) := Bx.alloc ⟨K5.below, K5.cred⟩ _
          have ho6 := ho5.alloc (.cells #[.int .u8 0] 5)
          have hd6 : ((w4.alloc (.cells #[.int .u32 u, .int .u32 g, .slice a4 len k4] 25)).alloc (.cells #[.int .u8 0] 5)).heap[w4.heap.size]? = some (.cells #[.int .u32 u, .int .u32 g, .slice a4 len k4] 25) := (Below.heap_alloc _ _ _ (by simp)).trans hd5
          generalize (w4.alloc (.cells #[.int .u32 u, .int .u32 g, .slice a4 len k4] 25)).alloc (.cells #[.int .u8 0] 5) = W6 at *
          have hk7 : Kept (fun k => k = gb) W6 w7 := (Kept.refl _ _).grown hgrow7 (fun k e => .inl (by cases e; rfl))
          have X7 : Bx w u g (.slice a len cap) w7 := ⟨X6.below.trans (hk7.below (fun k e => by omega) X6.below.size), (hk7.block _ X6.lt (by omega)).trans X6.cred⟩
          have ho7 := own_kept ho6 hk7 hdo
          have hd7 := (hk7.block _ (Array.getElem?_eq_some_iff.1 hd6).1 hnb).trans hd6
          clear hk7 hgrow7 X6 ho6 hd6 ho5 hd5 K5 hB5 hdo hnb hb5
          generalize w4.heap.size = H4 at *
          obtain ⟨g7, c7, rfl, hc7, hc72, _⟩ := own_shape hown7 (by omega)
          have hl7 : (B ++ [0]).length = B.length + 1 := by simp
          have hown7' : w7.ownsRow (w.heap.size + 1) 5 1 (.slice (some ⟨g7, 0, none⟩) (B.length + 1) c7) (B.length + 1) ((B ++ [0]).map (Value.int .u8)) := by rw [List.map_append]; exact hown7
          have hgt := cget_any (some ⟨g7, 0, none⟩) (B.length + 1) c7 (B ++ [0]) w7 hc7 hc72 hl7 (hbyt.append (byt_of_all (by simp))) (seg_own hown7' hl7)
          unfold cgPost at hgt
          rw [hput0] at hgt
          clear hown7 hown7' hl7 hput0
          generalize B ++ [0] = Z at *
          refine hgt.mono ?_
          rintro e w8 ⟨v8, rfl, ho8, hb8⟩
          obtain ⟨a8, k8, rfl, _, _, _, _⟩ := own_val4 ho8 rfl
          have X8 := X7.next hb8
          have hs8 : Seg4 w8 a4 gs := by
            obtain ⟨_, _, e, h, _⟩ := own_val4 (own_below ho7 hb8) hz
            cases e
            exact h
          have hd8 := (hb8.block _ (Array.getElem?_eq_some_iff.1 hd7).1).trans hd7
          clear hgt ho8 hb8 X7 ho7 hd7
          have hb9 : Below w8.heap.size w8 (w8.alloc (.cells #[.int .u32 (cgU Z), .int .u32 (cgG Z), .slice a8 (cgL Z).length k8] 25)) := (Below.refl _ _).alloc (Nat.le_refl _) _
          have X9 := X8.next hb9
          have hs9 := hs8.below hb9
          have hd9 := (hb9.block _ (Array.getElem?_eq_some_iff.1 hd8).1).trans hd8
          obtain ⟨e0, e1, e2, _, _, _⟩ := cred_at X9.cred
          obtain ⟨f0, f1, f2, _, _, _⟩ := cred_at hd9
          clear X8 hs8 hd8 hb9
          have qs : (stamp == stamp) = true := by simp
          have qm : (m.toList == m.toList) = true := by simp
          go_wp2_with fail
          generalize w8.alloc (.cells #[.int .u32 (cgU Z), .int .u32 (cgG Z), .slice a8 (cgL Z).length k8] 25) = w9 at *
          refine (samecred_true u g a4 a len k4 cap gs w9 (by omega) hz hs9 (hs.below X9.below)).mono ?_
          rintro e w10 ⟨rfl, hb10⟩
          have X10 := X9.next hb10
          clear hb10 X9 e0 e1 e2 f0 f1 f2 hd9 hs9
          have hL1' : (B.length : Int) ≤ 400 := by omega
          go_wp2
          go_ret
          exact ⟨by simp, X10.below⟩
end Go.Proofs.Ytmanblfmdpdfoaa
