/-
  The bytes of a row: the specification.
-/
import Derived.Test.YtkfkhfagehcmiaaRwd
import Derived.Test.YtkfkhfagehcmiaaRs
import Derived.Deep.QuietTactic
import Derived.BigQuiet
import Derived.Laws.IdiomStrings
namespace Go.Proofs.Ytkfkhfagehcmiaa
open Go Go.RowKit
attribute [local go_sem ↓] Go.wp_at_zero Go.wp_at_succ

theorem conv_rdV {W : World} {zs : List Int} {c : Nat} {fr : Nat × Nat} (hz : ∀ z ∈ zs, 0 ≤ z ∧ z < 256) : RdV (W.alloc (.cells (bytesRow (strOfNums zs) c) 5 fr)) (some ⟨W.heap.size, 0, none⟩) zs.length (zs.map (Value.int .u8)) := by
  refine ⟨by simp, fun h => ⟨W.heap.size, 0, rfl, by simp, fun i hi => ?_⟩⟩
  have hb : (W.alloc (.cells (bytesRow (strOfNums zs) c) 5 fr)).heap[W.heap.size]? = some (.cells (bytesRow (strOfNums zs) c) 5 fr) := by
    show (W.heap.push _)[W.heap.size]? = _
    simp
  have hsz : i < (strOfNums zs).data.size := by have := strOfNums_size zs; rw [ByteArray.size] at this; omega
  rw [Nat.zero_add, cell_of_row _ W.heap.size i _ 5 fr hb, bytesRow_at _ _ _ hsz]
  have hs2 : i < (strOfNums zs).size := by rw [strOfNums_size]; exact hi
  rw [map_get _ _ 0 _ hi]
  exact congrArg (fun z => some (Value.int .u8 z)) (son_get (p := i) hz hs2)

theorem key_bytes {v : VV} (h : okV v = true) : ∀ z ∈ keyZ v, 0 ≤ z ∧ z < 256 := by
  intro z hz
  unfold keyZ at hz
  rcases okV_kind h with h0 | ⟨h1, h2, h3⟩ | ⟨h1, _⟩
  · rw [if_pos h0] at hz
    rw [List.mem_singleton.1 hz]; omega
  · rw [if_neg (by omega), if_pos h1] at hz
    unfold numZ at hz
    simp only [List.mem_cons, List.not_mem_nil, or_false] at hz
    rcases hz with rfl | rfl | rfl | rfl | rfl <;> omega
  · rw [if_neg (by omega), if_neg (by omega)] at hz
    rcases List.mem_cons.1 hz with rfl | hz
    · omega
    · rcases List.mem_append.1 hz with hz | hz
      · unfold strK at hz
        obtain ⟨c, _, rfl⟩ := List.mem_map.1 hz
        have := c.toNat_lt
        omega
      · rw [List.mem_singleton.1 hz]; omega
theorem kb_bytes {vs : List VV} {n : Nat} (h : allV vs n = true) : ∀ z ∈ kbZ vs n, 0 ≤ z ∧ z < 256 := fun z hz => by
  unfold kbZ at hz
  obtain ⟨v, hv, hz⟩ := List.mem_flatMap.1 hz
  exact key_bytes (List.all_eq_true.1 h v hv) z hz
set_option maxRecDepth 100000 in
set_option maxHeartbeats 4000000 in
theorem c_lBytes (b i : Int) (u v : VV) (w : World) (hr : rowB i u v = true) (ht : inB b 1 3 = true) :
    Calls Try.prog 63 #[.int .i64 b, .agg #[.int .i64 i, .int .i64 u.1, .int .i64 u.2.1, .string u.2.2, .int .i64 v.1, .int .i64 v.2.1, .string v.2.2]] w fun e w' => e = .returned (.string (strOfNums (kbZ (vsR b i u v) 4))) ∧ Below w.heap.size w w' := by
  obtain ⟨V, hV⟩ : ∃ V, w.alloc (.cells #[.int .i64 i, .int .i64 u.1, .int .i64 u.2.1, .string u.2.2, .int .i64 v.1, .int .i64 v.2.1, .string v.2.2] 59) = V := ⟨_, rfl⟩
  have BV : Hid (Below w.heap.size w V) := by unfold Hid; rw [← hV]; exact (Below.refl _ _).alloc (Nat.le_refl _) _
  have X : Hid (Box V w.heap.size 59 #[.int .i64 i, .int .i64 u.1, .int .i64 u.2.1, .string u.2.2, .int .i64 v.1, .int .i64 v.2.1, .string v.2.2]) := by unfold Hid; rw [← hV]; exact Box.new _ _ _
  obtain ⟨x0, x1, x2, x3, x4, x5, x6⟩ := box7 X.out
  have RD : Hid (RdC (V.alloc (.cells #[.int .i64 1, .int .i64 b, .string ⟨#[]⟩, .int .i64 1, .int .i64 i, .string ⟨#[]⟩, .int .i64 u.1, .int .i64 u.2.1, .string u.2.2, .int .i64 v.1, .int .i64 v.2.1, .string v.2.2] 25)) (some ⟨V.heap.size, 0, none⟩) 4 (vsR b i u v)) := rd_vsR V b i u v
  have CK := c45 _ 4 4 _ _ RD.out (by omega) (all_vsR hr ht)
  have HK : Hid (Calls Try.prog 57 #[.slice (some ⟨V.heap.size, 0, none⟩) 4 4] (V.alloc (.cells #[.int .i64 1, .int .i64 b, .string ⟨#[]⟩, .int .i64 1, .int .i64 i, .string ⟨#[]⟩, .int .i64 u.1, .int .i64 u.2.1, .string u.2.2, .int .i64 v.1, .int .i64 v.2.1, .string v.2.2] 25)) fun e w' => ∃ v1, e = .returned v1 ∧ w'.ownsRow (V.alloc (.cells #[.int .i64 1, .int .i64 b, .string ⟨#[]⟩, .int .i64 1, .int .i64 i, .string ⟨#[]⟩, .int .i64 u.1, .int .i64 u.2.1, .string u.2.2, .int .i64 v.1, .int .i64 v.2.1, .string v.2.2] 25)).heap.size 5 1 v1 (kbZ (vsR b i u v) 4).length ((kbZ (vsR b i u v) 4).map (Value.int .u8)) ∧ Below (V.alloc (.cells #[.int .i64 1, .int .i64 b, .string ⟨#[]⟩, .int .i64 1, .int .i64 i, .string ⟨#[]⟩, .int .i64 u.1, .int .i64 u.2.1, .string u.2.2, .int .i64 v.1, .int .i64 v.2.1, .string v.2.2] 25)).heap.size (V.alloc (.cells #[.int .i64 1, .int .i64 b, .string ⟨#[]⟩, .int .i64 1, .int .i64 i, .string ⟨#[]⟩, .int .i64 u.1, .int .i64 u.2.1, .string u.2.2, .int .i64 v.1, .int .i64 v.2.1, .string v.2.2] 25)) w') := CK
  clear CK hr ht
  go_enter Try.func63, Try.ntmps63
  go_wp2_with fail
  refine HK.out.mono ?_
  rintro e w2 ⟨v2, rfl, ho, hb⟩
  have B2 : Hid (Below w.heap.size w w2) := (BV.out.alloc BV.out.size _).trans (hb.mono (by have := BV.out.size; simp; omega))
  obtain ⟨a, cap, rfl⟩ := own_slice2 ho
  have hcv : (convert 31 9 (.slice a (kbZ (vsR b i u v) 4).length cap)).run Try.prog w2 = .ok (.string (strOfNums (kbZ (vsR b i u v) 4))) w2 := conv8 (RdV.own ho)
  clear ho hb HK RD hV x0 x1 x2 x3 x4 x5 x6
  go_wp2
  go_ret
  exact ⟨rfl, B2.out⟩
set_option maxRecDepth 100000 in
set_option maxHeartbeats 4000000 in
theorem c_specRB (b i : Int) (u v : VV) (w : World) (h1 : u.2.2.size ≤ 1048576) (h2 : v.2.2.size ≤ 1048576) :
    Calls Try.prog 38 #[.int .i64 b, .agg #[.int .i64 i, .int .i64 u.1, .int .i64 u.2.1, .string u.2.2, .int .i64 v.1, .int .i64 v.2.1, .string v.2.2]] w fun e w' => (∃ ha hc, e = .returned (.tuple #[.slice ha (resB b i u v).length hc, .int .i64 (errB b i u v)]) ∧ RdV w' ha (resB b i u v).length ((resB b i u v).map (Value.int .u8)) ∧ ∀ x : Addr, ha = some x → x.block < w'.heap.size) ∧ Below w.heap.size w w' := by
  obtain ⟨V, hV⟩ : ∃ V, w.alloc (.cells #[.int .i64 i, .int .i64 u.1, .int .i64 u.2.1, .string u.2.2, .int .i64 v.1, .int .i64 v.2.1, .string v.2.2] 59) = V := ⟨_, rfl⟩
  have BV : Hid (Below w.heap.size w V) := by unfold Hid; rw [← hV]; exact (Below.refl _ _).alloc (Nat.le_refl _) _
  have X : Hid (Box V w.heap.size 59 #[.int .i64 i, .int .i64 u.1, .int .i64 u.2.1, .string u.2.2, .int .i64 v.1, .int .i64 v.2.1, .string v.2.2]) := by unfold Hid; rw [← hV]; exact Box.new _ _ _
  obtain ⟨x0, x1, x2, x3, x4, x5, x6⟩ := box7 X.out
  obtain ⟨p0, g0⟩ : ∃ p, rowB i u v = p := ⟨_, rfl⟩
  obtain ⟨p1, g1⟩ : ∃ p, inB b 1 3 = p := ⟨_, rfl⟩
  have C0 : Hid (∀ W : World, Calls Try.prog 62 #[.agg #[.int .i64 i, .int .i64 u.1, .int .i64 u.2.1, .string u.2.2, .int .i64 v.1, .int .i64 v.2.1, .string v.2.2]] W fun e w' => e = .returned (.bool p0) ∧ Below W.heap.size W w') := fun W => by rw [← g0]; exact c_lRow i u v W (by unfold maxLen; omega) (by unfold maxLen; omega)
  have C1 : Hid (∀ W : World, Calls Try.prog 44 #[.int .i64 b, .int .i64 1, .int .i64 3] W fun e w' => e = .returned (.bool p1) ∧ w' = W) := fun W => by rw [← g1]; exact c_in b 1 3 W
  have G0 : Hid (rowB i u v = p0) := g0
  have G1 : Hid (inB b 1 3 = p1) := g1
  clear g0 g1 h1 h2
  go_enter Try.func38, Try.ntmps38
  go_wp2_with fail
  refine (C0.out _).mono ?_
  rintro e w1 ⟨rfl, hb⟩
  have Bw1 : Hid (Below w.heap.size w w1) := BV.out.trans (hb.mono BV.out.size)
  have Xw1 : Hid (Box w1 w.heap.size 59 #[.int .i64 i, .int .i64 u.1, .int .i64 u.2.1, .string u.2.2, .int .i64 v.1, .int .i64 v.2.1, .string v.2.2]) := X.out.belowS hb
  clear hb x0 x1 x2 x3 x4 x5 x6 hV
  obtain ⟨x0, x1, x2, x3, x4, x5, x6⟩ := box7 Xw1.out
  cases p0
  · have E : Hid (errB b i u v = 1 ∧ resB b i u v = []) := errB1 G0.out
    clear C0 C1
    go_wp2
    go_ret2
    rw [E.out.1, E.out.2]
    exact ⟨⟨_, _, rfl, ⟨rfl, fun h => absurd h (Nat.lt_irrefl _)⟩, fun x h => by cases h; simp⟩, Bw1.out.alloc Bw1.out.size _⟩
  go_wp2_with fail
  refine (C1.out _).mono ?_
  rintro e w2 ⟨rfl, hw⟩
  rw [hw]
  clear hw
  cases p1
  · have E : Hid (errB b i u v = 4 ∧ resB b i u v = []) := errB4 G0.out G1.out
    clear C0 C1
    go_wp2
    go_ret2
    rw [E.out.1, E.out.2]
    exact ⟨⟨_, _, rfl, ⟨rfl, fun h => absurd h (Nat.lt_irrefl _)⟩, fun x h => by cases h; simp⟩, Bw1.out.alloc Bw1.out.size _⟩
  have E : Hid (errB b i u v = 0 ∧ resB b i u v = kbZ (vsR b i u v) 4) := errB0 G0.out G1.out
  obtain ⟨R, hR⟩ : ∃ R, kbZ (vsR b i u v) 4 = R := ⟨_, rfl⟩
  have HZ : Hid (∀ z ∈ R, 0 ≤ z ∧ z < 256) := by unfold Hid; rw [← hR]; exact kb_bytes (all_vsR G0.out G1.out)
  have CB := c_lBytes b i u v w1 G0.out G1.out
  rw [hR] at CB E
  obtain ⟨t, ht⟩ : ∃ t, t = strOfNums R := ⟨_, rfl⟩
  have HT : Hid (t = strOfNums R) := ht
  obtain ⟨n, hn⟩ : ∃ n, R.length = n := ⟨_, rfl⟩
  have HN : Hid (R.length = n) := hn
  have hcv : ∀ W : World, (convert 9 31 (.string t)).run Try.prog W = .ok (.slice (some ⟨W.heap.size, 0, none⟩) n (grownCap W n 0 5)) (W.drew.alloc (.cells (bytesRow t (grownCap W n 0 5)) 5 ((bytesRow t (grownCap W n 0 5)).size, (bytesRow t (grownCap W n 0 5)).size + 1))) := fun W => by
    have hs : t.size = n := by rw [ht, strOfNums_size, hn]
    have := run_bytes_of_string (P := Try.prog) W 9 31 5 t Try.underlying9 Try.underlying31 Try.underlying5
    rw [hs] at this
    exact this
  rw [← ht] at CB
  have HB : Hid (Calls Try.prog 63 #[.int .i64 b, .agg #[.int .i64 i, .int .i64 u.1, .int .i64 u.2.1, .string u.2.2, .int .i64 v.1, .int .i64 v.2.1, .string v.2.2]] w1 fun e w' => e = .returned (.string t) ∧ Below w1.heap.size w1 w') := CB
  clear C0 C1 CB ht hn hR
  go_wp2_with fail
  refine HB.out.mono ?_
  rintro e w3 ⟨rfl, hb⟩
  have B3 : Hid (Below w.heap.size w w3) := Bw1.out.trans (hb.mono Bw1.out.size)
  clear hb HB
  go_wp2
  go_ret2
  rw [E.out.1, E.out.2, HN.out]
  refine ⟨⟨_, _, rfl, ?_, fun x h => by cases h; simp⟩, B3.out.drew.alloc B3.out.size _⟩
  rw [HT.out, ← HN.out]
  exact conv_rdV (W := w3.drew) HZ.out
theorem resB_len (b i : Int) (u v : VV) : (resB b i u v).length ≤ 1048576 := by
  by_cases h : rowB i u v = true
  · by_cases h2 : inB b 1 3 = true
    · rw [(errB0 h h2).2]
      have := kbZ_len (vs := vsR b i u v) 4 (by simp [vsR]) (all_vsR h h2)
      omega
    · rw [(errB4 h (by simpa using h2)).2]; exact Nat.zero_le _
  · rw [(errB1 (by simpa using h)).2]; exact Nat.zero_le _

end Go.Proofs.Ytkfkhfagehcmiaa
