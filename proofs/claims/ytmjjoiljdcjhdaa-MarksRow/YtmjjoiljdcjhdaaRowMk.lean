/- The walk of 'MarksRow': true for any messages, any size, any part of another one; nothing that was there turns. -/
import Derived.Test.YtmjjoiljdcjhdaaAliveMk
import Derived.Test.YtmjjoiljdcjhdaaMsgLists
import Derived.Test.YtmjjoiljdcjhdaaLists
namespace Go.Proofs.Ytmjjoiljdcjhdaa
set_option linter.unusedVariables false
open Go.RowKit

/-- All messages in fragments, one behind the other. -/
def cutRow (size : Nat) (ps : List Part) : List Int := (ps.map Part.zs).flatMap (cutB size)

theorem cutRow_take (size : Nat) (ps : List Part) (k : Nat) (hk : k < ps.length) : cutRow size (ps.take (k + 1)) = cutRow size (ps.take k) ++ cutB size ps[k].zs := by
  unfold cutRow
  rw [List.take_succ_eq_append_getElem hk, List.map_append, List.flatMap_append]
  simp

theorem cutRow_split (size : Nat) (ps : List Part) (k : Nat) : cutRow size ps = cutRow size (ps.take k) ++ cutRow size (ps.drop k) := by
  unfold cutRow
  rw [← List.flatMap_append, ← List.map_append, List.take_append_drop]

theorem cutRow_le (size : Nat) (hs : 1 ≤ size) (ps : List Part) (hz : ∀ p ∈ ps, p.zs.length = p.len) : (cutRow size ps).length ≤ 5 * sizeOf2 ps + 4 * ps.length := by
  induction ps with
  | nil => simp [cutRow, sizeOf2]
  | cons p r ih =>
    have h1 := ih (fun q hq => hz q (List.mem_cons_of_mem _ hq))
    have h2 := hz p List.mem_cons_self
    have h3 := (cut_length size p.zs hs).2
    unfold cutRow sizeOf2 at *
    rw [List.map_cons, List.flatMap_cons, List.length_append, List.map_cons, List.sum_cons, List.length_cons]
    omega

theorem byt_cutRow {ps : List Part} (size : Nat) (hs : 1 ≤ size) (h : ∀ p ∈ ps, Byt p.zs) : Byt (cutRow size ps) := by
  induction ps with
  | nil => exact fun i => by simp [cutRow]
  | cons p r ih =>
    unfold cutRow at *
    rw [List.map_cons, List.flatMap_cons]
    exact (byt_cut (h p List.mem_cons_self) size hs).append (ih (fun q hq => h q (List.mem_cons_of_mem _ hq)))

theorem last_short (k : Nat) (hk : k < 8) : (mg 65536 (([128, 0, 0, 4, 108, 97, 115, 116] : List Int).take k)).1 = 4 := by
  refine mg_short 65536 _ k (by decide) ?_
  rw [show (mg 65536 [128, 0, 0, 4, 108, 97, 115, 116]).2.2 = 8 from by decide]
  exact hk

set_option maxRecDepth 100000 in
set_option maxHeartbeats 2000000 in
theorem mrow_off (a : Option Addr) (len cap : Nat) (x c : Int) (w : World) (hlc : len ≤ cap) (hm : cap ≤ 9223372036854775807) (h : 50 < len) :
    Calls Try.prog 4 #[.slice a len cap, .int .u16 x, .int .u16 c] w fun e w' => e = .returned (.bool true) ∧ Below w.heap.size w w' := by
  go_enter Try.func4, Try.ntmps4
  go_wp2_with fail
  refine (alive_any w).mono ?_
  rintro e w1 ⟨rfl, hB1⟩
  go_wp2_with fail
  refine (alive_any w1).mono ?_
  rintro e w2 ⟨rfl, hB2⟩
  go_wp2
  go_ret
  exact ⟨rfl, hB1.trans (hB2.mono hB1.size)⟩

set_option maxRecDepth 100000 in
set_option maxHeartbeats 4000000 in
theorem mrow_walk (a : Option Addr) (len cap : Nat) (ps : List Part) (x c : Int) (w : World) (hx0 : 0 ≤ x) (hx1 : x ≤ 65535) (hc0 : 0 ≤ c) (hc1 : c ≤ 65535) (hlc : len ≤ cap) (hm : cap ≤ 9223372036854775807) (hz : ps.length = len) (hs : Segs w a ps) (hp : ∀ p ∈ ps, p.Ok w) :
    Calls Try.prog 4 #[.slice a len cap, .int .u16 x, .int .u16 c] w fun e w' => e = .returned (.bool true) ∧ Below w.heap.size w w' := by
  obtain ⟨i0, hi, hz0, hz1', hz2⟩ := info_parts infoB
  have kc := fun (w : World) (C : Array Value) (n c : Nat) => Lib.run_convert_bytes_const (P := Try.prog) w 22 5 C n c Try.underlying22 Try.underlying5
  obtain ⟨k0, rfl⟩ := Int.eq_ofNat_of_zero_le hx0
  by_cases h50 : 50 < len
  · exact mrow_off a len cap _ c w hlc hm h50
  · go_enter Try.func4, Try.ntmps4
    go_wp2_with fail
    refine (alive_any w).mono ?_
    rintro e w1 ⟨rfl, hB1⟩
    go_wp2_with fail
    refine (messagesSize_any a len cap ps w1 (by omega) hlc hm hz (hs.below hB1) (fun p hh => (hp p hh).below hB1)).mono ?_
    rintro e w' ⟨⟨S, rfl, hS⟩, hw'⟩
    subst w'
    by_cases hSb : 60000 < S
    · clear hS
      go_wp2_with fail
      refine (alive_any _).mono ?_
      rintro e w3 ⟨rfl, hB3⟩
      go_wp2
      go_ret
      exact ⟨rfl, hB1.trans (hB3.mono hB1.size)⟩
    · have hS1 := hS (by omega)
      have hln : ∀ p ∈ ps, p.zs.length = p.len := fun p hh => (hp p hh).isIn.len
      have hrl := cutRow_le (k0 + 1) (by omega) ps hln
      have hsz : ∀ p ∈ ps, p.len ≤ 60000 := fun p hh => by have := sizeOf2_mem hh; omega
      have hrm : (cutRow (k0 + 1) ps).length ≤ 400000 := by omega
      clear hS hS1 hrl
      go_wp2
      go_loopw [7, 8] (fun v i wr => ∃ k : Nat, k ≤ len ∧ i = .int .i64 k ∧ wr.ownsRow w.heap.size 5 1 v (cutRow (k0 + 1) (ps.take k)).length ((cutRow (k0 + 1) (ps.take k)).map (Value.int .u8)) ∧ Below w.heap.size w wr) (fun _ i _ => len - (intOf i).toNat)
      case atStart => exact ⟨0, by omega, rfl, ⟨rfl, .inl ⟨rfl, rfl⟩⟩, hB1⟩
      case round =>
        obtain ⟨k, hk, rfl, hown, hB⟩ := hrel
        clear hB1
        by_cases hlt : k < len
        · rcases hs with rfl | ⟨b, off, rfl, hc⟩
          · simp at hz; omega
          · have hcx := hc k (by omega)
            have hlb : b < w.heap.size := World.block_lt_of_cell? _ _ hcx
            replace hcx : wr.cell? ⟨b, off + k, none⟩ = _ := (hB.cell (p := ⟨b, off + k, none⟩) hlb).trans hcx
            have hok := hp ps[k] (List.getElem_mem _)
            have hpl := hsz ps[k] (List.getElem_mem _)
            have HR : Hid (cutRow (k0 + 1) (ps.take (k + 1)) = cutRow (k0 + 1) (ps.take k) ++ cutB (k0 + 1) ps[k].zs) := cutRow_take (k0 + 1) ps k (by omega)
            have hle : (cutRow (k0 + 1) (ps.take (k + 1))).length ≤ 400000 := by
              have := congrArg List.length (cutRow_split (k0 + 1) ps (k + 1))
              rw [List.length_append] at this
              omega
            rw [HR.out, List.length_append] at hle
            generalize ps[k] = p at hcx hok hpl HR hle
            obtain ⟨pa, pl, pc, zs⟩ := p
            obtain ⟨⟨hlen, hseg, hnil⟩, hplc, hpr, hpb⟩ := hok
            simp only at hlen hseg hnil hplc hpr hpb hpl HR hle
            simp only [Part.v] at hcx
            clear hc
            have hcg := cut_good pa pl pc (k0 + 1) zs wr hplc (by omega) hlen (hseg.below hB) hnil (by omega) (by omega) (by omega)
            rw [show ((k0 + 1 : Nat) : Int) = (k0 : Int) + 1 from by omega] at hcg
            have hcl := (cut_length (k0 + 1) zs (by omega)).1
            generalize cutB (k0 + 1) zs = bs at *
            obtain ⟨L, hL⟩ : ∃ L, bs.length = L := ⟨_, rfl⟩
            rw [hL] at hcg hcl hle
            have HL : Hid (bs.length = L) := hL
            clear hL
            go_wp2_with fail
            refine hcg.mono ?_
            rintro e w4 ⟨v4, rfl, hown4, hb4⟩
            have hB4 := hB.trans (hb4.mono hB.size)
            replace hown := own_below hown hb4
            obtain ⟨g, c4, rfl, hc3, hd3, he3⟩ := own_shape hown4 (by omega)
            have hsg := seg_own hown4 HL.out
            clear hown4 hb4 hcx hcg
            go_wp2_with (at_builtin; refine wpList_append_own _ rfl _ _ 22 rfl w.heap.size 5 i0 (.int .u8 0) 1 1 Try.underlying22 hi hz0 hz1' hz2 rfl (by decide) _ _ _ rfl hown ⟨g, 0, none⟩ L c4 (bs.map (Value.int .u8)) rfl (by simp [HL.out]) (seg_news hsg) (news_one _) (by unfold maxLen; omega) (by omega) hB4.size ?_; intro v' w6 hown6 hgrow6 _)
            have hB6 : Below w.heap.size w w6 := hB4.grown hgrow6 hB4.size (fun k e => own_low hown e)
            go_roundw
            case rel => exact ⟨k + 1, by omega, by go_num, by rw [HR.out, List.length_append, HL.out, List.map_append]; exact hown6, hB6⟩
            case measure => simp [intOf]; omega
        · obtain rfl : k = len := by omega
          rw [List.take_of_length_le (by omega)] at hown
          have hbr := byt_cutRow (k0 + 1) (by omega) (fun p hh => (hp p hh).byt)
          have hps : ∀ l ∈ ps.map Part.zs, l.length ≤ 65536 := by
            intro l hl
            obtain ⟨p, hh, rfl⟩ := List.mem_map.1 hl
            have := hsz p hh
            have := hln p hh
            omega
          have hk8 : ∃ j : Nat, c % 8 = (j : Int) ∧ j < 8 := ⟨(c % 8).toNat, by omega, by omega⟩
          obtain ⟨j, hj, hj8⟩ := hk8
          have HM : Hid (mall (cutRow (k0 + 1) ps ++ ([128, 0, 0, 4, 108, 97, 115, 116] : List Int).take j) = (ps.map Part.zs, (cutRow (k0 + 1) ps).length, 0)) := mall_row _ _ (k0 + 1) (by omega) hps (last_short j hj8)
          have hbl : Byt (([128, 0, 0, 4, 108, 97, 115, 116] : List Int).take j) := Byt.take (byt_of_all (by decide)) j
          have htl : (([128, 0, 0, 4, 108, 97, 115, 116] : List Int).take j).length = j := by rw [List.length_take]; simp; omega
          generalize cutRow (k0 + 1) ps = bs at *
          obtain ⟨L, hL⟩ : ∃ L, bs.length = L := ⟨_, rfl⟩
          rw [hL] at hown hrm HM
          have HL : Hid (bs.length = L) := hL
          clear hL
          obtain ⟨aA, cA, rfl, _⟩ := own_val hown HL.out
          go_wp2_with fail
          have hB7 : Below w.heap.size w (wr.alloc (.cells #[.int .u8 108, .int .u8 97, .int .u8 115, .int .u8 116] 5 (4, 5))) := hB.alloc hB.size _
          have hs7 := seg_litm wr 5 (4, 5) [108, 97, 115, 116]
          simp only [List.map_cons, List.map_nil] at hs7
          replace hown := own_below hown ((Below.refl _ _).alloc (Nat.le_refl _) (.cells #[.int .u8 108, .int .u8 97, .int .u8 115, .int .u8 116] 5 (4, 5)))
          generalize wr.alloc (.cells #[.int .u8 108, .int .u8 97, .int .u8 115, .int .u8 116] 5 (4, 5)) = w7 at *
          refine (mput_any _ 4 4 [108, 97, 115, 116] w7 (by omega) (by omega) rfl hs7 (by simp)).mono ?_
          rintro e w8 ⟨v8, rfl, hown8, hb8⟩
          rw [show putZs [108, 97, 115, 116] = [128, 0, 0, 4, 108, 97, 115, 116] from by decide] at hown8
          rw [show ([128, 0, 0, 4, 108, 97, 115, 116] : List Int).length = 8 from rfl] at hown8
          rw [show putE 4 = 0 from by decide]
          have hB8 := hB7.trans (hb8.mono hB7.size)
          replace hown := own_below hown hb8
          obtain ⟨g8, c8, rfl, hc8, hd8, he8⟩ := own_shape hown8 (by omega)
          have hsg8 := (seg_own hown8 rfl).take j
          clear hown8 hb8 hB7 hB hs7
          go_wp2_with (at_builtin; refine wpList_append_own _ rfl _ _ 22 rfl w.heap.size 5 i0 (.int .u8 0) 1 1 Try.underlying22 hi hz0 hz1' hz2 rfl (by decide) (.slice aA L cA) L _ rfl hown ⟨g8, 0, none⟩ j c8 ((([128, 0, 0, 4, 108, 97, 115, 116] : List Int).take j).map (Value.int .u8)) rfl (by rw [List.length_map, htl]; omega) (seg_news hsg8) (news_one _) (by unfold maxLen; omega) (by omega) hB8.size ?_; intro v9 w9 hown9 hgrow9 _)
          rw [← List.map_append] at hown9
          have hl9 : (bs ++ ([128, 0, 0, 4, 108, 97, 115, 116] : List Int).take j).length = L + j := by rw [List.length_append, HL.out, htl]
          have hB9 : Below w.heap.size w w9 := hB8.grown hgrow9 hB8.size (fun k e => own_low hown e)
          obtain ⟨a9, c9, rfl, hs9, hc9, hd9, hn9⟩ := own_val hown9 hl9
          refine (all_any a9 (L + j) c9 _ w9 (by omega) hc9 hd9 hl9 (hbr.append hbl) hs9 hn9).mono ?_
          rintro e w10 ⟨v10, ps2, rfl, he2, hr2, ho2, _, hB10⟩
          rw [HM.out] at he2 ⊢
          dsimp only at he2 ⊢
          have hpl2 : ps2.length = k := by
            have := congrArg List.length he2
            simp only [List.length_map] at this
            omega
          have hB11 := hB9.trans (hB10.mono hB9.size)
          rw [hpl2] at hr2
          obtain ⟨am, cm, rfl⟩ := row_shape hr2
          obtain ⟨hg2, hcm, _⟩ := own_segs hr2 hpl2
          have hsmall : ∀ p ∈ ps2, p.len ≤ 4611686018427387904 := by
            intro p hh
            have h1 := hps p.zs (by rw [← he2]; exact List.mem_map.2 ⟨p, hh, rfl⟩)
            have h2 := (ho2 p hh).1
            omega
          have hsm := samemsg_true am a k cm cap ps2 ps w10 (by omega) hcm hlc hpl2 he2 hg2 (hs.below hB11) (fun p hh => (ho2 p hh).isIn) (fun p hh => ((hp p hh).below hB11).isIn) hsmall
          clear hown hown9 hgrow9 hs9 hg2 hr2 ho2 he2 HM hB10 hB9 hB8 hsg8 hbl hbr hps
          have q1 : ((L : Int) == (L : Int)) = true := by simp
          go_wp2_with fail
          refine hsm.mono ?_
          rintro e w' ⟨rfl, n9, rfl⟩
          have hB12 := below_drewN hB11 n9
          go_wp2
          go_ret
          exact ⟨rfl, hB12⟩
end Go.Proofs.Ytmjjoiljdcjhdaa
