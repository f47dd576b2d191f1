/-
  The walk of the law of FnFree.
-/
import Derived.Test.YtmkfclbamecgaaaDoorLci
import Derived.Test.YtmkfclbamecgaaaDoorLfr
import Derived.Test.YtmkfclbamecgaaaDoorLce
import Derived.Test.YtmkfclbamecgaaaDoorLs
import Derived.Test.YtmkfclbamecgaaaDoorDn
import Derived.Test.YtmkfclbamecgaaaDoorLc
import Derived.Test.YtmkfclbamecgaaaDoorLcj
import Derived.Test.YtmkfclbamecgaaaDoorLfs
import Derived.Deep.RegionWith
import Derived.Deep.QuietTactic
import Derived.BigQuiet
import Derived.Test.YtmkfclbamecgaaaDoorZa
import Derived.Test.YtmkfclbamecgaaaDoorLfl
import Derived.Test.YtmkfclbamecgaaaDoorLj
namespace Go.Proofs.YtmkfclbamecgaaaDoor
open Go Go.RowKit
attribute [local go_sem ↓] Go.wp_at_zero Go.wp_at_succ

theorem getD_lt (vs : List LK) (k : Nat) (h : k < vs.length) : vs.getD k dK = vs[k] := by rw [List.getD_eq_getElem?_getD, List.getElem?_eq_getElem h]; rfl
theorem pw_iff (vs : List LK) : (vs.all okK && fitL vs) = true ↔ (∀ v ∈ vs, okK v = true) ∧ vs.Pairwise (fun u v => pairBad v u = false) := by
  rw [← fit_pairs, okP_iff]
  constructor
  · intro h
    refine ⟨fun v hv => ?_, List.pairwise_iff_getElem.2 (fun i j hi hj hij => ?_)⟩
    · obtain ⟨i, hi, e⟩ := List.getElem_of_mem hv
      have := (h i hi).1
      rw [getD_lt vs i hi, e] at this
      exact this
    · have := (h j hj).2
      rw [getD_lt vs j hj] at this
      rw [List.any_eq_false] at this
      have := this vs[i] (List.mem_take_iff_getElem.2 ⟨i, by omega, rfl⟩)
      simpa using this
  · rintro ⟨h1, h2⟩ k hk
    rw [getD_lt vs k hk]
    refine ⟨h1 _ (List.getElem_mem hk), List.any_eq_false.2 (fun u hu => ?_)⟩
    obtain ⟨i, hi, e⟩ := List.mem_take_iff_getElem.1 hu
    have := (List.pairwise_iff_getElem.1 h2) i k (by omega) hk (by omega)
    rw [← e, this]
    exact Bool.false_ne_true
theorem okLs_iff (vs : List LK) (ws : List WK) : okLs vs ws = true ↔ vs.length ≤ 60 ∧ ws.length ≤ 100 ∧ ((∀ v ∈ vs, okK v = true) ∧ vs.Pairwise (fun u v => pairBad v u = false)) ∧ ∀ v ∈ ws, okW v = true := by
  rw [← pw_iff]
  unfold okLs
  simp only [Bool.and_eq_true, decide_eq_true_eq, List.all_eq_true]
  constructor
  · rintro ⟨⟨⟨⟨a, b⟩, c⟩, d⟩, e⟩; exact ⟨a, b, ⟨c, d⟩, e⟩
  · rintro ⟨a, b, ⟨c, d⟩, e⟩; exact ⟨⟨⟨⟨a, b⟩, c⟩, d⟩, e⟩
theorem ok_free (vs : List LK) (ws : List WK) (p : LK → Bool) (q : WK → Bool) (h : okLs vs ws = true) : okLs (vs.filter p) (ws.filter q) = true := by
  obtain ⟨a, b, ⟨c, d⟩, e⟩ := (okLs_iff vs ws).1 h
  exact (okLs_iff _ _).2 ⟨Nat.le_trans (List.length_filter_le _ _) a, Nat.le_trans (List.length_filter_le _ _) b, ⟨fun v hv => c v (List.mem_filter.1 hv).1, d.sublist List.filter_sublist⟩, fun v hv => e v (List.mem_filter.1 hv).1⟩
theorem ok_take (vs : List LK) (ws : List WK) (x b r m : Int) (h : okLs vs ws = true) (hk : okK ⟨x, b, r, m⟩ = true) : okLs (tkV vs x b r m) (tkW vs ws x b r m) = true := by
  obtain ⟨n0, n1, ⟨c, d⟩, e⟩ := (okLs_iff vs ws).1 h
  have hall : vs.all okK = true := List.all_eq_true.2 c
  obtain ⟨bx, _, _, bm⟩ := okK_bounds hk
  have hcw : (callW ws x).length ≤ 100 := Nat.le_trans (List.length_filter_le _ _) n1
  have hce : ∀ v ∈ callW ws x, okW v = true := fun v hv => e v (List.mem_filter.1 hv).1
  by_cases h1 : vs.any (hasK x b r m) = true
  · obtain ⟨e1, e2, _⟩ := tk_have (ws := ws) h1
    rw [e1, e2]
    exact (okLs_iff _ _).2 ⟨n0, hcw, ⟨c, d⟩, hce⟩
  have h1' : vs.any (hasK x b r m) = false := by simpa using h1
  by_cases h2 : tkO vs x b r m = 0#64
  · by_cases h3 : vs.length = 60
    · obtain ⟨e1, e2, _⟩ := tk_full (ws := ws) h1' h2 h3
      rw [e1, e2]
      exact (okLs_iff _ _).2 ⟨n0, hcw, ⟨c, d⟩, hce⟩
    · obtain ⟨e1, e2, _⟩ := tk_got (ws := ws) h1' h2 h3
      rw [e1, e2]
      refine (okLs_iff _ _).2 ⟨by rw [List.length_append, List.length_singleton]; omega, hcw, ⟨fun v hv => ?_, ?_⟩, hce⟩
      · rcases List.mem_append.1 hv with h4 | h4
        · exact c v h4
        · rw [List.mem_singleton.1 h4]; exact hk
      · refine List.pairwise_append.2 ⟨d, List.pairwise_singleton _ _, fun u hu v hv => ?_⟩
        rw [List.mem_singleton.1 hv]
        rw [Bool.eq_false_iff]
        intro hbad
        unfold pairBad at hbad
        simp only [Bool.and_eq_true, Bool.or_eq_true, decide_eq_true_eq, Bool.not_eq_true'] at hbad
        obtain ⟨⟨q1, q2⟩, q3⟩ := hbad
        rcases q3 with q3 | ⟨q3, q4⟩
        · have := List.any_eq_false.1 h1' u hu
          rw [← q3] at this
          exact this (by simp [hasK, covB])
        · have hb := okK_bounds (c u hu)
          have := (tkO_in vs x b r m u.x hall bx (by omega) (by omega)).2 ⟨u, hu, ⟨fun e => q3 e.symm, q1.symm, q2.symm, by rw [fitB_symm]; exact q4⟩, rfl⟩
          rw [h2, inT_zero] at this
          cases this
  · obtain ⟨e1, e2, _⟩ := tk_wait (ws := ws) h1' h2
    rw [e1, e2]
    have hF := tkF_ok vs ws x b r m hall (List.all_eq_true.2 e) bx
    refine (okLs_iff _ _).2 ⟨n0, ?_, ⟨c, d⟩, ?_⟩
    · unfold awW
      split
      · exact hcw
      · split
        · exact hcw
        · omega
    · unfold awW
      split
      · exact hce
      · split
        · exact hce
        · exact List.all_eq_true.1 hF

end Go.Proofs.YtmkfclbamecgaaaDoor
namespace Go.Proofs.YtmkfclbamecgaaaDoor
open Go Go.RowKit
attribute [local go_sem ↓] Go.wp_at_zero Go.wp_at_succ

theorem results_tmp4 {P : Program} {fn : Func} {p q r s : Tmp} (h : fn.results = #[.tmp p, .tmp q, .tmp r, .tmp s]) (tmps : Array Value) (w : World) : (results fn tmps).run P w = .ok (.tuple #[tmps.getD p undef, tmps.getD q undef, tmps.getD r undef, tmps.getD s undef]) w := by
  simp [results, h]
theorem ok_drawn {x b r m : Int} (h1 : 1 ≤ x ∧ x ≤ 4) (h2 : 1 ≤ b ∧ b ≤ 2) (h3 : -1 ≤ r ∧ r ≤ 2) (h4 : 1 ≤ m ∧ m ≤ 4) (h5 : r = -1 ∨ 3 ≤ m) : okK ⟨x, b, r, m⟩ = true := by
  unfold okK inB
  rw [decide_eq_true (show 1 ≤ x ∧ x ≤ 60 by omega), decide_eq_true (show 1 ≤ b ∧ b ≤ 3 by omega), decide_eq_true (show -1 ≤ r ∧ r ≤ 1000 by omega), decide_eq_true h4]
  rcases h5 with h | h
  · rw [decide_eq_true h]; rfl
  · rw [decide_eq_true h]; simp
set_option maxRecDepth 100000 in
set_option maxHeartbeats 4000000 in
theorem c_drawAsk (w0 w : World) (g : Nat) (a : Option Addr) (n c T : Nat) (zs : List Int) (h : Drw w0 w g a n c T zs) (hT : T ≤ 900000) :
    Calls Tryd.prog 71 #[.pointer (some ⟨g, 0, none⟩)] w fun e w' => (∃ x b r m : Int, e = .returned (.tuple #[.int .i64 x, .int .i64 b, .int .i64 r, .int .i64 m]) ∧ okK ⟨x, b, r, m⟩ = true) ∧ Drw w0 w' g a n c (T + 5) zs ∧ Inn g (g + 1) w w' := by
  have H : Hid (Drw w0 w g a n c T zs) := h
  clear h
  go_enter Tryd.func71, Tryd.ntmps71
  go_wp2_with fail
  refine (c_chance w0 w g a n c T zs 2 H.out (by omega) (by omega)).mono ?_
  rintro e w1 ⟨⟨rb, rfl⟩, hd, hi⟩
  have D1 : Hid (Drw w0 w1 g a n c (T + 1) zs) := hd
  have I1 : Hid (Inn g (g + 1) w w1) := hi
  clear hd hi H
  cases rb
  case false =>
    go_wp2_with fail
    refine (c_next w0 w1 g a n c (T + 1) zs 4 D1.out (by omega) (by omega)).mono ?_
    rintro e w2 ⟨⟨r2, rfl, p2, q2⟩, hd, hi⟩
    have D2 : Hid (Drw w0 w2 g a n c (T + 2) zs) := hd
    have I2 : Hid (Inn g (g + 1) w w2) := I1.out.trans hi
    clear hd hi D1 I1
    go_wp2_with fail
    refine (c_next w0 w2 g a n c (T + 2) zs 2 D2.out (by omega) (by omega)).mono ?_
    rintro e w3 ⟨⟨r3, rfl, p3, q3⟩, hd, hi⟩
    have D3 : Hid (Drw w0 w3 g a n c (T + 3) zs) := hd
    have I3 : Hid (Inn g (g + 1) w w3) := I2.out.trans hi
    clear hd hi D2 I2
    go_wp2_with fail
    refine (c_next w0 w3 g a n c (T + 3) zs 3 D3.out (by omega) (by omega)).mono ?_
    rintro e w4 ⟨⟨r4, rfl, p4, q4⟩, hd, hi⟩
    have D4 : Hid (Drw w0 w4 g a n c (T + 4) zs) := hd
    have I4 : Hid (Inn g (g + 1) w w4) := I3.out.trans hi
    clear hd hi D3 I3
    go_wp2_with fail
    refine (c_next w0 w4 g a n c (T + 4) zs 2 D4.out (by omega) (by omega)).mono ?_
    rintro e w5 ⟨⟨r5, rfl, p5, q5⟩, hd, hi⟩
    have D5 : Hid (Drw w0 w5 g a n c (T + 5) zs) := hd
    have I5 : Hid (Inn g (g + 1) w w5) := I4.out.trans hi
    clear hd hi D4 I4
    have s2 : IntKind.i64.wrap (1 + r2) = 1 + r2 := by simp [IntKind.wrap_i64]; omega
    have s3 : IntKind.i64.wrap (1 + r3) = 1 + r3 := by simp [IntKind.wrap_i64]; omega
    have s5 : IntKind.i64.wrap (3 + r5) = 3 + r5 := by simp [IntKind.wrap_i64]; omega
    go_wp2
    exact bodyPost_ret (results_tmp4 Tryd.results71 _ _) rfl ⟨⟨1 + r2, 1 + r3, r4, 3 + r5, rfl, ok_drawn (by omega) (by omega) (by omega) (by omega) (.inr (by omega))⟩, D5.out, I5.out⟩
  case true =>
    go_wp2_with fail
    refine (c_next w0 w1 g a n c (T + 1) zs 4 D1.out (by omega) (by omega)).mono ?_
    rintro e w2 ⟨⟨r2, rfl, p2, q2⟩, hd, hi⟩
    have D2 : Hid (Drw w0 w2 g a n c (T + 2) zs) := hd
    have I2 : Hid (Inn g (g + 1) w w2) := I1.out.trans hi
    clear hd hi D1 I1
    go_wp2_with fail
    refine (c_next w0 w2 g a n c (T + 2) zs 2 D2.out (by omega) (by omega)).mono ?_
    rintro e w3 ⟨⟨r3, rfl, p3, q3⟩, hd, hi⟩
    have D3 : Hid (Drw w0 w3 g a n c (T + 3) zs) := hd
    have I3 : Hid (Inn g (g + 1) w w3) := I2.out.trans hi
    clear hd hi D2 I2
    go_wp2_with fail
    refine (c_next w0 w3 g a n c (T + 3) zs 4 D3.out (by omega) (by omega)).mono ?_
    rintro e w4 ⟨⟨r4, rfl, p4, q4⟩, hd, hi⟩
    have D4 : Hid (Drw w0 w4 g a n c (T + 4) zs) := hd
    have I4 : Hid (Inn g (g + 1) w w4) := I3.out.trans hi
    clear hd hi D3 I3
    have s2 : IntKind.i64.wrap (1 + r2) = 1 + r2 := by simp [IntKind.wrap_i64]; omega
    have s3 : IntKind.i64.wrap (1 + r3) = 1 + r3 := by simp [IntKind.wrap_i64]; omega
    have s4 : IntKind.i64.wrap (1 + r4) = 1 + r4 := by simp [IntKind.wrap_i64]; omega
    go_wp2
    exact bodyPost_ret (results_tmp4 Tryd.results71 _ _) rfl ⟨⟨1 + r2, 1 + r3, -1, 1 + r4, rfl, ok_drawn (by omega) (by omega) (by omega) (by omega) (.inl rfl)⟩, D4.out.mono (by omega), I4.out⟩

end Go.Proofs.YtmkfclbamecgaaaDoor
namespace Go.Proofs.YtmkfclbamecgaaaDoor
open Go Go.RowKit
attribute [local go_sem ↓] Go.wp_at_zero Go.wp_at_succ

theorem inn_fresh {g E B F : Nat} {w w1 w2 : World} (h : Inn g E w w1) (i : Inn B F w1 w2) (hB : w.heap.size ≤ B) : Inn g E w w2 :=
  ⟨i.os.trans h.os, i.tape.trans h.tape, i.output.trans h.output, Nat.le_trans h.size i.size, fun k hk ho => (i.block k (Nat.lt_of_lt_of_le hk h.size) (.inl (by omega))).trans (h.block k hk ho)⟩
set_option maxRecDepth 100000 in
set_option maxHeartbeats 8000000 in
theorem c_locks (w0 w : World) (g : Nat) (a : Option Addr) (n c T : Nat) (zs : List Int) (h : Drw w0 w g a n c T zs) (hT : T ≤ 800000) :
    Calls Tryd.prog 70 #[.pointer (some ⟨g, 0, none⟩)] w fun e w' => (∃ (h' : HL) (vs : List LK) (ws : List WK), e = .returned (.agg #[.slice h'.a0 vs.length h'.c0, .slice h'.a1 ws.length h'.c1]) ∧ okLs vs ws = true ∧ OwnL w' w.heap.size h' vs ws) ∧ Drw w0 w' g a n c (T + 100) zs ∧ Inn g (g + 1) w w' := by
  have lg : g < w.heap.size := h.src.lt
  have l00 : w0.heap.size ≤ g := h.behind
  obtain ⟨V0, hV0⟩ : ∃ V, w.alloc (.cells #[.slice none 0 0, .slice none 0 0] 34) = V := ⟨_, rfl⟩
  obtain ⟨V1, hV1⟩ : ∃ V, V0.alloc (.cells #[] 55) = V := ⟨_, rfl⟩
  obtain ⟨V2, hV2⟩ : ∃ V, V1.alloc (.cells #[] 59) = V := ⟨_, rfl⟩
  obtain ⟨V3, hV3⟩ : ∃ V, V2.alloc (.cells #[.slice (some ⟨V0.heap.size, 0, none⟩) 0 0, .slice (some ⟨V1.heap.size, 0, none⟩) 0 0] 34) = V := ⟨_, rfl⟩
  have b0 : Below w.heap.size w V0 := by rw [← hV0]; exact (Below.refl _ _).alloc (Nat.le_refl _) _
  have b1 : Below V0.heap.size V0 V1 := by rw [← hV1]; exact (Below.refl _ _).alloc (Nat.le_refl _) _
  have b2 : Below V1.heap.size V1 V2 := by rw [← hV2]; exact (Below.refl _ _).alloc (Nat.le_refl _) _
  have b3 : Below V2.heap.size V2 V3 := by rw [← hV3]; exact (Below.refl _ _).alloc (Nat.le_refl _) _
  have l0 : w.heap.size < V0.heap.size := by rw [← hV0]; simp
  have l1 : V0.heap.size < V1.heap.size := by rw [← hV1]; simp
  have l2 : V1.heap.size < V2.heap.size := by rw [← hV2]; simp
  have l3 : V2.heap.size < V3.heap.size := by rw [← hV3]; simp
  have BV : Below w.heap.size w V3 := ((b0.trans (b1.mono (by omega))).trans (b2.mono (by omega))).trans (b3.mono (by omega))
  have YV : Hid (Box V3 w.heap.size 34 #[.slice none 0 0, .slice none 0 0]) := (((show Box V0 w.heap.size 34 #[.slice none 0 0, .slice none 0 0] by rw [← hV0]; exact Box.new _ _ _).belowS b1).belowS b2).belowS b3
  have XV : Hid (Box V3 V2.heap.size 34 #[.slice (some ⟨V0.heap.size, 0, none⟩) 0 0, .slice (some ⟨V1.heap.size, 0, none⟩) 0 0]) := by unfold Hid; rw [← hV3]; exact Box.new _ _ _
  have OK0 : V3.ownsRow w.heap.size 55 4 (.slice (some ⟨V0.heap.size, 0, none⟩) 0 0) 0 (cellsK []) := own_below (own_below (show V1.ownsRow w.heap.size 55 4 (.slice (some ⟨V0.heap.size, 0, none⟩) 0 0) 0 (cellsK []) by rw [← hV1]; exact World.ownsRow_lit V0 #[] 0 (by omega) (Nat.zero_le _) rfl) b2) b3
  have OW0 : V3.ownsRow w.heap.size 59 2 (.slice (some ⟨V1.heap.size, 0, none⟩) 0 0) 0 (cellsW []) := own_below (show V2.ownsRow w.heap.size 59 2 (.slice (some ⟨V1.heap.size, 0, none⟩) 0 0) 0 (cellsW []) by rw [← hV2]; exact World.ownsRow_lit V1 #[] 0 (by omega) (Nat.zero_le _) rfl) b3
  have OV : Hid (OwnL V3 w.heap.size ⟨some ⟨V0.heap.size, 0, none⟩, 0, some ⟨V1.heap.size, 0, none⟩, 0⟩ [] []) := ⟨OK0, OW0, fun k hk hk' => by have e1 : V0.heap.size = k := Option.some.inj hk; have e2 : V1.heap.size = k := Option.some.inj hk'; omega⟩
  have DV : Hid (Drw w0 V3 g a n c T zs) := h.below BV
  have IV : Hid (Inn g (g + 1) w V3) := Inn.of_below BV
  clear h b0 b1 b2 b3 BV OK0 OW0
  go_enter Tryd.func70, Tryd.ntmps70
  go_wp2_with fail
  refine (c_next w0 V3 g a n c T zs 14 DV.out (by omega) (by omega)).mono ?_
  rintro e w1 ⟨⟨rn, rfl, p1, q1⟩, hd, hi⟩
  obtain ⟨m, hm⟩ : ∃ m : Nat, rn = (m : Int) := ⟨rn.toNat, by omega⟩
  subst hm
  have D1 : Hid (Drw w0 w1 g a n c (T + 1) zs) := hd
  have I1 : Hid (Inn g (g + 1) w w1) := IV.out.trans hi
  have X1 : Hid (Box w1 V2.heap.size 34 #[.slice (some ⟨V0.heap.size, 0, none⟩) 0 0, .slice (some ⟨V1.heap.size, 0, none⟩) 0 0]) := XV.out.innO hi (.inr (by omega))
  have Y1 : Hid (Box w1 w.heap.size 34 #[.slice none 0 0, .slice none 0 0]) := YV.out.innO hi (.inr (by omega))
  have O1 : Hid (OwnL w1 w.heap.size ⟨some ⟨V0.heap.size, 0, none⟩, 0, some ⟨V1.heap.size, 0, none⟩, 0⟩ [] []) := ⟨own_inn OV.out.1 hi (fun k hk => .inr (by have e1 : V0.heap.size = k := Option.some.inj hk; omega)), own_inn OV.out.2.1 hi (fun k hk => .inr (by have e1 : V1.heap.size = k := Option.some.inj hk; omega)), OV.out.2.2⟩
  have hm13 : m ≤ 13 := by omega
  clear hd hi DV IV XV YV OV p1 q1
  go_wp2
  go_loopw [4] (fun s wr => ∃ (i : Nat) (h : HL) (vs : List LK) (ws : List WK), i ≤ 13 ∧ s = .int .i64 (i : Int) ∧ Hid (okLs vs ws = true) ∧ Hid (Box wr V2.heap.size 34 #[.slice h.a0 vs.length h.c0, .slice h.a1 ws.length h.c1]) ∧ Hid (OwnL wr w.heap.size h vs ws) ∧ Hid (∀ b, (ob h.a0 = some b ∨ ob h.a1 = some b) → w.heap.size < b ∧ b ≠ V2.heap.size) ∧ Hid (Box wr w.heap.size 34 #[.slice none 0 0, .slice none 0 0]) ∧ Hid (Drw w0 wr g a n c (T + 1 + (13 - i) * 6) zs) ∧ Hid (Inn g (g + 1) w wr)) (fun s _ => (intOf s).toNat)
  case atStart => exact ⟨m, ⟨some ⟨V0.heap.size, 0, none⟩, 0, some ⟨V1.heap.size, 0, none⟩, 0⟩, [], [], hm13, rfl, rfl, X1, O1, (fun k hk => by
    rcases hk with hk | hk
    · have e1 : V0.heap.size = k := Option.some.inj hk
      exact ⟨by omega, by omega⟩
    · have e1 : V1.heap.size = k := Option.some.inj hk
      exact ⟨by omega, by omega⟩), Y1, D1.out.mono (by omega), I1⟩
  case round =>
    obtain ⟨i, h, vs, ws, hi13, rfl, HK, HX, HO, HF, HY, HD, HI⟩ := hrel
    obtain ⟨f0, f1, _, _⟩ := okLs_parts HK.out
    have lx : V2.heap.size < wr.heap.size := HX.out.lt
    by_cases hi0 : 0 < i
    · have ci : (0 : Int) < (i : Int) := by omega
      have cw : IntKind.i64.wrap ((i : Int) - 1) = (i : Int) - 1 := by simp [IntKind.wrap_i64]; omega
      have ce : (i : Int) - 1 = ((i - 1 : Nat) : Int) := by omega
      go_wp2_with fail
      refine (c_chance w0 wr g a n c _ zs 7 HD.out (by omega) (by omega)).mono ?_
      rintro e w2 ⟨⟨rb, rfl⟩, hd, hi⟩
      have D2 : Hid (Drw w0 w2 g a n c (T + 1 + (13 - i) * 6 + 1) zs) := hd
      have I2 : Hid (Inn g (g + 1) w w2) := HI.out.trans hi
      have X2 : Hid (Box w2 V2.heap.size 34 #[.slice h.a0 vs.length h.c0, .slice h.a1 ws.length h.c1]) := HX.out.innO hi (.inr (by omega))
      have Y2 : Hid (Box w2 w.heap.size 34 #[.slice none 0 0, .slice none 0 0]) := HY.out.innO hi (.inr (by omega))
      have O2 : Hid (OwnL w2 w.heap.size h vs ws) := ⟨own_inn HO.out.1 hi (fun k hk => .inr (by have := HF.out k (.inl hk); omega)), own_inn HO.out.2.1 hi (fun k hk => .inr (by have := HF.out k (.inr hk); omega)), HO.out.2.2⟩
      clear hd hi HD HI HX HY HO
      obtain ⟨x0, x1⟩ := box2 X2.out
      cases rb
      case true =>
        have i2d : Inn g (g + 1) w2 w2.drew := Inn.drew (Inn.refl _ _ _)
        have D2' : Hid (Drw w0 w2.drew g a n c (T + 1 + (13 - i) * 6 + 1) zs) := D2.out.inn (B := w2.heap.size) (E := w2.heap.size) (Inn.drew (Inn.refl _ _ _)) (.inl (by have := D2.out.src.lt; omega)) (by have := D2.out.src.lt; omega)
        have I2' : Hid (Inn g (g + 1) w w2.drew) := I2.out.trans i2d
        clear i2d
        go_wp2_with fail
        go_region_with (first
          | (go_at_call 96
             refine (c_next w0 _ g a n c _ zs 4 D2'.out (by omega) (by omega)).mono ?_
             rintro e w6 ⟨⟨r6, rfl, p6, q6⟩, hd, hi⟩
             have D6 : Hid (Drw w0 w6 g a n c (T + 1 + (13 - i) * 6 + 2) zs) := hd
             have I6 : Hid (Inn g (g + 1) w w6) := I2'.out.trans hi
             have X6 : Hid (Box w6 V2.heap.size 34 #[.slice h.a0 vs.length h.c0, .slice h.a1 ws.length h.c1]) := Box.innO (show Box w2.drew V2.heap.size 34 #[.slice h.a0 vs.length h.c0, .slice h.a1 ws.length h.c1] from X2.out) hi (.inr (by omega))
             have Y6 : Hid (Box w6 w.heap.size 34 #[.slice none 0 0, .slice none 0 0]) := Box.innO (show Box w2.drew w.heap.size 34 #[.slice none 0 0, .slice none 0 0] from Y2.out) hi (.inr (by omega))
             have O6 : Hid (OwnL w6 w.heap.size h vs ws) := ⟨own_inn (show w2.drew.ownsRow w.heap.size 55 4 (.slice h.a0 vs.length h.c0) vs.length (cellsK vs) from O2.out.1) hi (fun k hk => .inr (by have := HF.out k (.inl hk); omega)), own_inn (show w2.drew.ownsRow w.heap.size 59 2 (.slice h.a1 ws.length h.c1) ws.length (cellsW ws) from O2.out.2.1) hi (fun k hk => .inr (by have := HF.out k (.inr hk); omega)), O2.out.2.2⟩
             have l6 : V2.heap.size < w6.heap.size := X6.out.lt
             have s6 : IntKind.i64.wrap (1 + r6) = 1 + r6 := by simp [IntKind.wrap_i64]; omega
             clear hd hi
             obtain ⟨v0, v1⟩ := box2 X6.out)
          | (go_at_call 61
             refine (c_l06Free h vs ws (1 + r6) w6 O6.out.rd (by omega) (by omega)).mono ?_
             rintro e w7 ⟨⟨h7, rfl, o7⟩, hb⟩
             have OX : Hid (OwnL w7 w6.heap.size h7 (vs.filter (pNk (1 + r6))) (ws.filter (pNw (1 + r6)))) := o7
             have XX : Hid (Box w7 V2.heap.size 34 #[.slice h.a0 vs.length h.c0, .slice h.a1 ws.length h.c1]) := X6.out.belowS hb
             have YX : Hid (Box w7 w.heap.size 34 #[.slice none 0 0, .slice none 0 0]) := Y6.out.belowS hb
             have DX : Hid (Drw w0 w7 g a n c (T + 1 + (13 - i) * 6 + 2) zs) := D6.out.below hb
             have IX : Hid (Inn g (g + 1) w w7) := I6.out.trans (Inn.of_below hb)
             have NK : Hid (okLs (vs.filter (pNk (1 + r6))) (ws.filter (pNw (1 + r6))) = true) := ok_free vs ws _ _ HK.out
             clear hb o7
             obtain ⟨U, hU⟩ : ∃ U, vs.filter (pNk (1 + r6)) = U := ⟨_, rfl⟩
             obtain ⟨TT, hTT⟩ : ∃ U, ws.filter (pNw (1 + r6)) = U := ⟨_, rfl⟩
             rw [hU, hTT] at OX NK
             rw [hU, hTT]
             clear hU hTT
             obtain ⟨w8, hw8⟩ : ∃ Q, put2 w7 V2.heap.size (.slice h7.a0 (U).length h7.c0) (.slice h7.a1 (TT).length h7.c1) = Q := ⟨_, rfl⟩
             have i8 : Inn V2.heap.size (V2.heap.size + 1) w7 w8 := by rw [← hw8]; exact put2_inn _ _
             have ra := own_rng OX.out.1
             have rb := own_rng OX.out.2.1
             have X8 : Hid (Box w8 V2.heap.size 34 #[.slice h7.a0 (U).length h7.c0, .slice h7.a1 (TT).length h7.c1]) := by unfold Hid; rw [← hw8]; exact put2_box XX.out _ _
             have Y8 : Hid (Box w8 w.heap.size 34 #[.slice none 0 0, .slice none 0 0]) := YX.out.innO i8 (.inl (by omega))
             have D8 : Hid (Drw w0 w8 g a n c (T + 1 + (13 - i) * 6 + 2) zs) := DX.out.inn i8 (.inl (by omega)) (by have := DX.out.behind; omega)
             have I8 : Hid (Inn g (g + 1) w w8) := inn_fresh IX.out i8 (by omega)
             have O8 : Hid (OwnL w8 w.heap.size h7 (U) (TT)) := ⟨(own_inn OX.out.1 i8 (fun k hk => .inr (by have := ra k hk; omega))).down (by omega), (own_inn OX.out.2.1 i8 (fun k hk => .inr (by have := rb k hk; omega))).down (by omega), OX.out.2.2⟩
             have F8 : Hid (∀ b, (ob h7.a0 = some b ∨ ob h7.a1 = some b) → w.heap.size < b ∧ b ≠ V2.heap.size) := (fun k hk => by
               rcases hk with hk | hk
               · have := ra k hk
                 exact ⟨by omega, by omega⟩
               · have := rb k hk
                 exact ⟨by omega, by omega⟩)
             obtain ⟨u0, u1⟩ := box2 XX.out
             obtain ⟨s0, s1⟩ := thaw2 XX.out
             unfold put2 at hw8
             clear i8 ra rb OX XX YX DX IX))
        all_goals
          go_wp2
          go_roundw
          case rel => exact ⟨i - 1, h7, U, TT, by omega, by rw [← ce], NK, X8, O8, F8, Y8, D8.out.mono (by omega), I8⟩
          case measure => simp [intOf]; omega
      go_wp2_with fail
      refine (c_drawAsk w0 w2 g a n c _ zs D2.out (by omega)).mono ?_
      rintro e w3 ⟨⟨x, b, r, m', rfl, hk⟩, hd, hi⟩
      have D3 : Hid (Drw w0 w3 g a n c (T + 1 + (13 - i) * 6 + 1 + 5) zs) := hd
      have I3 : Hid (Inn g (g + 1) w w3) := I2.out.trans hi
      have X3 : Hid (Box w3 V2.heap.size 34 #[.slice h.a0 vs.length h.c0, .slice h.a1 ws.length h.c1]) := X2.out.innO hi (.inr (by omega))
      have Y3 : Hid (Box w3 w.heap.size 34 #[.slice none 0 0, .slice none 0 0]) := Y2.out.innO hi (.inr (by omega))
      have O3 : Hid (OwnL w3 w.heap.size h vs ws) := ⟨own_inn O2.out.1 hi (fun k hk => .inr (by have := HF.out k (.inl hk); omega)), own_inn O2.out.2.1 hi (fun k hk => .inr (by have := HF.out k (.inr hk); omega)), O2.out.2.2⟩
      have HQ : Hid (okK ⟨x, b, r, m'⟩ = true) := hk
      have l3 : V2.heap.size < w3.heap.size := X3.out.lt
      clear hd hi D2 I2 X2 Y2 O2 x0 x1 hk
      obtain ⟨x0, x1⟩ := box2 X3.out
      go_wp2_with fail
      refine (c_l06Take h vs ws x b r m' w3 O3.out.rd HK.out HQ.out (fun e => own_src O3.out.1 e) (fun e => own_src O3.out.2.1 e)).mono ?_
      rintro e w4 ⟨⟨h4, rfl, o4⟩, hb⟩
      have OX : Hid (OwnL w4 w3.heap.size h4 (tkV vs x b r m') (tkW vs ws x b r m')) := o4
      have XX : Hid (Box w4 V2.heap.size 34 #[.slice h.a0 vs.length h.c0, .slice h.a1 ws.length h.c1]) := X3.out.belowS hb
      have YX : Hid (Box w4 w.heap.size 34 #[.slice none 0 0, .slice none 0 0]) := Y3.out.belowS hb
      have DX : Hid (Drw w0 w4 g a n c (T + 1 + (13 - i) * 6 + 1 + 5) zs) := D3.out.below hb
      have IX : Hid (Inn g (g + 1) w w4) := I3.out.trans (Inn.of_below hb)
      have NK : Hid (okLs (tkV vs x b r m') (tkW vs ws x b r m') = true) := ok_take vs ws x b r m' HK.out HQ.out
      clear hb o4 x0 x1 X3 Y3 D3 I3 O3
      obtain ⟨U, hU⟩ : ∃ U, tkV vs x b r m' = U := ⟨_, rfl⟩
      obtain ⟨TT, hTT⟩ : ∃ U, tkW vs ws x b r m' = U := ⟨_, rfl⟩
      rw [hU, hTT] at OX NK
      rw [hU, hTT]
      clear hU hTT
      obtain ⟨w8, hw8⟩ : ∃ Q, put2 w4 V2.heap.size (.slice h4.a0 (U).length h4.c0) (.slice h4.a1 (TT).length h4.c1) = Q := ⟨_, rfl⟩
      have i8 : Inn V2.heap.size (V2.heap.size + 1) w4 w8 := by rw [← hw8]; exact put2_inn _ _
      have ra := own_rng OX.out.1
      have rb := own_rng OX.out.2.1
      have X8 : Hid (Box w8 V2.heap.size 34 #[.slice h4.a0 (U).length h4.c0, .slice h4.a1 (TT).length h4.c1]) := by unfold Hid; rw [← hw8]; exact put2_box XX.out _ _
      have Y8 : Hid (Box w8 w.heap.size 34 #[.slice none 0 0, .slice none 0 0]) := YX.out.innO i8 (.inl (by omega))
      have D8 : Hid (Drw w0 w8 g a n c (T + 1 + (13 - i) * 6 + 1 + 5) zs) := DX.out.inn i8 (.inl (by omega)) (by have := DX.out.behind; omega)
      have I8 : Hid (Inn g (g + 1) w w8) := inn_fresh IX.out i8 (by omega)
      have O8 : Hid (OwnL w8 w.heap.size h4 (U) (TT)) := ⟨(own_inn OX.out.1 i8 (fun k hk => .inr (by have := ra k hk; omega))).down (by omega), (own_inn OX.out.2.1 i8 (fun k hk => .inr (by have := rb k hk; omega))).down (by omega), OX.out.2.2⟩
      have F8 : Hid (∀ b, (ob h4.a0 = some b ∨ ob h4.a1 = some b) → w.heap.size < b ∧ b ≠ V2.heap.size) := (fun k hk => by
        rcases hk with hk | hk
        · have := ra k hk
          exact ⟨by omega, by omega⟩
        · have := rb k hk
          exact ⟨by omega, by omega⟩)
      obtain ⟨u0, u1⟩ := box2 XX.out
      obtain ⟨s0, s1⟩ := thaw2 XX.out
      unfold put2 at hw8
      clear i8 ra rb OX XX YX DX IX
      go_wp2
      go_roundw
      case rel => exact ⟨i - 1, h4, U, TT, by omega, by rw [← ce], NK, X8, O8, F8, Y8, D8.out.mono (by omega), I8⟩
      case measure => simp [intOf]; omega
    · have ci : ¬ (0 : Int) < (i : Int) := by omega
      obtain ⟨x0, x1⟩ := box2 HX.out
      go_wp2_with fail
      refine (c_l06Own h vs ws wr HO.out.rd (by omega) (by omega) (fun e => own_src HO.out.1 e) (fun e => own_src HO.out.2.1 e)).mono ?_
      rintro e w4 ⟨⟨h4, rfl, o4⟩, hb⟩
      have Y4 : Hid (Box w4 w.heap.size 34 #[.slice none 0 0, .slice none 0 0]) := HY.out.belowS hb
      have D4 : Hid (Drw w0 w4 g a n c (T + 1 + (13 - i) * 6) zs) := HD.out.below hb
      have I4 : Hid (Inn g (g + 1) w w4) := HI.out.trans (Inn.of_below hb)
      have ra := own_rng o4.1
      have rb := own_rng o4.2.1
      have O5 : Hid (OwnL (put2 w4 w.heap.size (.slice h4.a0 vs.length h4.c0) (.slice h4.a1 ws.length h4.c1)) w.heap.size h4 vs ws) := ⟨(own_inn o4.1 (put2_inn _ _) (fun k hk => .inr (by have := ra k hk; omega))).down (by omega), (own_inn o4.2.1 (put2_inn _ _) (fun k hk => .inr (by have := rb k hk; omega))).down (by omega), o4.2.2⟩
      obtain ⟨y0, y1⟩ := box2 Y4.out
      obtain ⟨t0, t1⟩ := thaw2 Y4.out
      clear ra rb o4 hb x0 x1
      go_wp2
      exact retL Tryd.results70 rfl rfl (put2_box Y4.out (.slice h4.a0 vs.length h4.c0) (.slice h4.a1 ws.length h4.c1)) ⟨⟨h4, vs, ws, rfl, HK.out, O5.out⟩, (D4.out.inn (put2_inn _ _) (.inl lg) (by omega)).mono (by omega), inn_fresh I4.out (put2_inn _ _) (Nat.le_refl _)⟩

end Go.Proofs.YtmkfclbamecgaaaDoor
namespace Go.Proofs.YtmkfclbamecgaaaDoor
open Go Go.RowKit
attribute [local go_sem ↓] Go.wp_at_zero Go.wp_at_succ

set_option maxRecDepth 100000 in
set_option maxHeartbeats 8000000 in
theorem c_locksOf (a : Option Addr) (n c : Nat) (zs : List Int) (w : World) (hr : RdV w a n (zs.map (Value.int .u8))) (hz : ∀ z ∈ zs, 0 ≤ z ∧ z < 256) (hn : n ≤ 1048576) :
    Calls Tryd.prog 35 #[.slice a n c] w fun e w' => (∃ (h' : HL) (vs : List LK) (ws : List WK), e = .returned (.agg #[.slice h'.a0 vs.length h'.c0, .slice h'.a1 ws.length h'.c1]) ∧ okLs vs ws = true ∧ OwnL w' w.heap.size h' vs ws) ∧ Below w.heap.size w w' := by
  have HZ : Hid (∀ z ∈ zs, 0 ≤ z ∧ z < 256) := hz
  obtain ⟨V, hV⟩ : ∃ V, w.alloc (.cells #[.slice none 0 0, .slice none 0 0] 34) = V := ⟨_, rfl⟩
  have hVb : Below w.heap.size w V := by rw [← hV]; exact (Below.refl _ _).alloc (Nat.le_refl _) _
  have HV : Hid (Below w.heap.size w V) := hVb
  have R0 : Hid (Box V w.heap.size 34 #[.slice none 0 0, .slice none 0 0]) := by unfold Hid; rw [← hV]; exact Box.new _ _ _
  have HR : Hid (RdV V a n (zs.map (Value.int .u8))) := hr.below hVb
  clear hr hz hVb
  go_enter Tryd.func35, Tryd.ntmps35
  go_wp2_with fail
  refine (c_source a n c zs V HR.out HZ.out hn).mono ?_
  rintro e w1 ⟨rfl, hd, hb⟩
  have B1 : Hid (Below w.heap.size w w1) := HV.out.trans (hb.mono HV.out.size)
  have R1 : Hid (Box w1 w.heap.size 34 #[.slice none 0 0, .slice none 0 0]) := R0.out.belowS hb
  have HD : Hid (Drw V w1 V.heap.size a n c 0 zs) := hd
  have lv : w.heap.size < V.heap.size := R0.out.lt
  clear hd hb
  go_wp2_with fail
  refine (c_locks V w1 V.heap.size a n c 0 zs HD.out (by omega)).mono ?_
  rintro e w2 ⟨⟨h2, vs, ws, rfl, hok, o2⟩, _, hi⟩
  have B2 : Hid (Below w.heap.size w w2) := B1.out.trans (hi.below (by omega) B1.out.size)
  have R2 : Hid (Box w2 w.heap.size 34 #[.slice none 0 0, .slice none 0 0]) := R1.out.innO hi (.inl lv)
  have HOK : Hid (okLs vs ws = true) := hok
  have l1 : w.heap.size < w1.heap.size := R1.out.lt
  have ra := own_rng o2.1
  have rb := own_rng o2.2.1
  have O3 : Hid (OwnL (put2 w2 w.heap.size (.slice h2.a0 vs.length h2.c0) (.slice h2.a1 ws.length h2.c1)) w.heap.size h2 vs ws) := ⟨(own_inn o2.1 (put2_inn _ _) (fun k hk => .inr (by have := ra k hk; omega))).down (by omega), (own_inn o2.2.1 (put2_inn _ _) (fun k hk => .inr (by have := rb k hk; omega))).down (by omega), o2.2.2⟩
  clear hi hok ra rb o2
  obtain ⟨y0, y1⟩ := box2 R2.out
  obtain ⟨t0, t1⟩ := thaw2 R2.out
  go_wp2
  exact retL Tryd.results35 rfl rfl (put2_box R2.out (.slice h2.a0 vs.length h2.c0) (.slice h2.a1 ws.length h2.c1)) ⟨⟨h2, vs, ws, rfl, HOK.out, O3.out⟩, put2_below B2.out (Nat.le_refl _) _ _⟩
set_option maxRecDepth 100000 in
set_option maxHeartbeats 8000000 in
theorem c_sameL (ha hb : HL) (vs : List LK) (ws : List WK) (w : World) (r1 : RdL w ha vs ws) (r2 : RdL w hb vs ws) (f0 : vs.length ≤ 60) (f1 : ws.length ≤ 100) :
    Calls Tryd.prog 37 #[.agg #[.slice ha.a0 vs.length ha.c0, .slice ha.a1 ws.length ha.c1], .agg #[.slice hb.a0 vs.length hb.c0, .slice hb.a1 ws.length hb.c1]] w fun e w' => e = .returned (.bool true) ∧ Below w.heap.size w w' := by
  have R1 : Hid (RdL w ha vs ws) := r1
  have R2 : Hid (RdL w hb vs ws) := r2
  obtain ⟨V0, hV0⟩ : ∃ V, w.alloc (.cells #[.slice ha.a0 vs.length ha.c0, .slice ha.a1 ws.length ha.c1] 34) = V := ⟨_, rfl⟩
  obtain ⟨V, hV⟩ : ∃ V, V0.alloc (.cells #[.slice hb.a0 vs.length hb.c0, .slice hb.a1 ws.length hb.c1] 34) = V := ⟨_, rfl⟩
  have hb0 : Below w.heap.size w V0 := by rw [← hV0]; exact (Below.refl _ _).alloc (Nat.le_refl _) _
  have hb1 : Below V0.heap.size V0 V := by rw [← hV]; exact (Below.refl _ _).alloc (Nat.le_refl _) _
  have BV : Hid (Below w.heap.size w V) := hb0.trans (hb1.mono hb0.size)
  have XV : Hid (Box V w.heap.size 34 #[.slice ha.a0 vs.length ha.c0, .slice ha.a1 ws.length ha.c1]) := (show Box V0 w.heap.size 34 #[.slice ha.a0 vs.length ha.c0, .slice ha.a1 ws.length ha.c1] by rw [← hV0]; exact Box.new _ _ _).belowS hb1
  have YV : Hid (Box V V0.heap.size 34 #[.slice hb.a0 vs.length hb.c0, .slice hb.a1 ws.length hb.c1]) := by unfold Hid; rw [← hV]; exact Box.new _ _ _
  obtain ⟨x0, x1⟩ := box2 XV.out
  obtain ⟨y0, y1⟩ := box2 YV.out
  clear r1 r2 hb0 hb1
  go_enter Tryd.func37, Tryd.ntmps37
  go_wp2
  clear x0 x1 y0 y1
  go_loopw [5] (fun s wr => ∃ k : Nat, k ≤ vs.length ∧ s = .int .i64 (k : Int) ∧ Hid (Below V.heap.size V wr)) (fun s _ => vs.length - (intOf s).toNat)
  case atStart => exact ⟨0, by omega, rfl, Below.refl _ _⟩
  case round =>
    obtain ⟨k, hk, rfl, HB⟩ := hrel
    have XR := XV.out.belowS HB.out
    have YR := YV.out.belowS HB.out
    obtain ⟨x0, x1⟩ := box2 XR
    obtain ⟨y0, y1⟩ := box2 YR
    by_cases hlt : k < vs.length
    · obtain ⟨_, hcs⟩ := (R1.out.1.below BV.out).below HB.out
      obtain ⟨ba, off, ha', hbl, hc⟩ := hcs (by omega)
      obtain ⟨_, hcs2⟩ := (R2.out.1.below BV.out).below HB.out
      obtain ⟨bb, off2, hb', hbl2, hc2⟩ := hcs2 (by omega)
      obtain ⟨⟨vx, vb, vr, vm⟩, hv⟩ : ∃ v, v = vs.getD k dK := ⟨_, rfl⟩
      obtain ⟨d0, d1, d2, d3⟩ := hc k hlt
      obtain ⟨e0, e1, e2, e3⟩ := hc2 k hlt
      rw [← hv] at d0 e0 d1 e1 d2 e2 d3 e3
      rw [ha'] at x0
      rw [hb'] at y0
      have ck : (k : Int) < (vs.length : Int) := by omega
      clear hc hcs hc2 hcs2 hv ha' hb' XR YR
      go_wp2_with fail
      go_quiet (fail)
      go_wp2
      go_roundw
      case rel => exact ⟨k + 1, by omega, by go_num, below_drewN HB.out _⟩
      case measure => simp [intOf]; omega
    · have cge : ¬ (k : Int) < (vs.length : Int) := by omega
      clear XR YR
      go_wp2
      clear x0 x1 y0 y1
      go_loopw [6] (fun s wr2 => ∃ k : Nat, k ≤ ws.length ∧ s = .int .i64 (k : Int) ∧ Hid (Below V.heap.size V wr2)) (fun s _ => ws.length - (intOf s).toNat)
      case atStart => exact ⟨0, by omega, rfl, HB⟩
      case round =>
        clear HB
        obtain ⟨k, hk, rfl, HB⟩ := hrel
        have XR := XV.out.belowS HB.out
        have YR := YV.out.belowS HB.out
        obtain ⟨x0, x1⟩ := box2 XR
        obtain ⟨y0, y1⟩ := box2 YR
        by_cases hlt : k < ws.length
        · obtain ⟨_, hcs⟩ := (R1.out.2.below BV.out).below HB.out
          obtain ⟨ba, off, ha', hbl, hc⟩ := hcs (by omega)
          obtain ⟨_, hcs2⟩ := (R2.out.2.below BV.out).below HB.out
          obtain ⟨bb, off2, hb', hbl2, hc2⟩ := hcs2 (by omega)
          obtain ⟨⟨vx, vf⟩, hv⟩ : ∃ v, v = ws.getD k dW := ⟨_, rfl⟩
          obtain ⟨d0, d1⟩ := hc k hlt
          obtain ⟨e0, e1⟩ := hc2 k hlt
          rw [← hv] at d0 e0 d1 e1
          rw [ha'] at x1
          rw [hb'] at y1
          have ck : (k : Int) < (ws.length : Int) := by omega
          clear hc hcs hc2 hcs2 hv ha' hb' XR YR
          go_wp2_with fail
          go_quiet (fail)
          go_wp2
          go_roundw
          case rel => exact ⟨k + 1, by omega, by go_num, below_drewN HB.out _⟩
          case measure => simp [intOf]; omega
        · have cge : ¬ (k : Int) < (ws.length : Int) := by omega
          clear XR YR
          go_wp2
          go_ret
          exact ⟨rfl, BV.out.trans (HB.out.mono BV.out.size)⟩

end Go.Proofs.YtmkfclbamecgaaaDoor
namespace Go.Proofs.YtmkfclbamecgaaaDoor
open Go Go.RowKit
attribute [local go_sem ↓] Go.wp_at_zero Go.wp_at_succ

theorem free_facts (vs : List LK) (ws : List WK) (x : Int) (h : okLs vs ws = true) (hx : inB x 1 60 = true) : ∃ (U : List LK) (T : List WK), frV vs ws x = U ∧ frW vs ws x = T ∧ frC vs ws x = 0 ∧ okLs U T = true ∧ loR U T x = [] ∧ loC U T x = 0 ∧ frV U T x = U ∧ frW U T x = T ∧ frC U T x = 0 ∧ ∀ k, k < T.length → (T.getD k dW).x ≠ x ∧ (T.getD k dW).f ≠ x := by
  obtain ⟨e1, e2, e3⟩ := fr0 h hx
  have hok := ok_free vs ws (pNk x) (pNw x) h
  obtain ⟨g1, g2, g3⟩ := fr0 hok hx
  obtain ⟨g4, g5⟩ := lo0 hok hx
  refine ⟨_, _, e1, e2, e3, hok, ?_, g5, ?_, ?_, g3, ?_⟩
  · rw [g4]
    refine List.filter_eq_nil_iff.2 (fun v hv => ?_)
    have := (List.mem_filter.1 hv).2
    unfold pNk at this
    unfold pOwn
    simpa using this
  · rw [g1, List.filter_filter]; congr 1; funext v; simp
  · rw [g2, List.filter_filter]; congr 1; funext v; simp
  · intro k hk
    have hm : (ws.filter (pNw x)).getD k dW ∈ ws.filter (pNw x) := by rw [List.getD_eq_getElem?_getD, List.getElem?_eq_getElem hk]; exact List.getElem_mem hk
    have := (List.mem_filter.1 hm).2
    obtain ⟨v, hv⟩ : ∃ v, (ws.filter (pNw x)).getD k dW = v := ⟨_, rfl⟩
    rw [hv] at this ⊢
    unfold pNw at this
    simpa using this
set_option maxRecDepth 100000 in
set_option maxHeartbeats 8000000 in
theorem law_FnFree (a : Option Addr) (n c : Nat) (zs : List Int) (a' : Option Addr) (n' c' : Nat) (zs' : List Int) (w : World) (hr : RdV w a n (zs.map (Value.int .u8))) (hz : ∀ z ∈ zs, 0 ≤ z ∧ z < 256) (hr' : RdV w a' n' (zs'.map (Value.int .u8))) (hz' : ∀ z ∈ zs', 0 ≤ z ∧ z < 256) (ht : FitH w) :
    Calls Tryd.prog 11 #[.slice a n c, .slice a' n' c'] w fun e w' => e = .returned (.bool true) ∧ Below w.heap.size w w' := by
  have R : Hid (RdV w a n (zs.map (Value.int .u8))) := hr
  have R' : Hid (RdV w a' n' (zs'.map (Value.int .u8))) := hr'
  have HZ : Hid (∀ z ∈ zs, 0 ≤ z ∧ z < 256) := hz
  have HZ' : Hid (∀ z ∈ zs', 0 ≤ z ∧ z < 256) := hz'
  have HT : Hid (FitH w) := ht
  clear hr hr' hz hz' ht
  go_enter Tryd.func11, Tryd.ntmps11
  by_cases h1 : 1048576 < n
  · have c1 : (1048576 : Int) < (n : Int) := by omega
    go_wp2
    go_ret
    exact ⟨rfl, Below.refl _ _⟩
  have c1 : ¬ (1048576 : Int) < (n : Int) := by omega
  by_cases h2 : 1048576 < n'
  · have c2 : (1048576 : Int) < (n' : Int) := by omega
    go_wp2
    go_ret
    exact ⟨rfl, Below.refl _ _⟩
  have c2 : ¬ (1048576 : Int) < (n' : Int) := by omega
  go_wp2_with fail
  refine (c_locksOf a n c zs w R.out HZ.out (by omega)).mono ?_
  rintro e w1 ⟨⟨h1', vs, ws, rfl, hok, o1⟩, hb⟩
  have HOK : Hid (okLs vs ws = true) := hok
  obtain ⟨f0, f1, _, _⟩ := okLs_parts hok
  obtain ⟨w1b, hw1b⟩ : ∃ Q, w1.alloc (.cells #[.slice h1'.a0 (vs).length h1'.c0, .slice h1'.a1 (ws).length h1'.c1] 34) = Q := ⟨_, rfl⟩
  have hb1b : Below w1.heap.size w1 w1b := by rw [← hw1b]; exact (Below.refl _ _).alloc (Nat.le_refl _) _
  have X1 : Hid (Box w1b w1.heap.size 34 #[.slice h1'.a0 (vs).length h1'.c0, .slice h1'.a1 (ws).length h1'.c1]) := by unfold Hid; rw [← hw1b]; exact Box.new _ _ _
  have B1 : Hid (Below w.heap.size w w1b) := hb.trans (hb1b.mono hb.size)
  have O1 : Hid (RdL w1b h1' vs ws) := (o1.below hb1b).rd
  have R1 : Hid (RdV w1b a' n' (zs'.map (Value.int .u8))) := R'.out.below (hb.trans (hb1b.mono hb.size))
  clear hb hb1b o1 hok
  go_wp2_with fail
  refine (c_atG a' n' c' zs' 0 4 w1b R1.out HZ'.out (by omega) (by omega) (by omega)).mono ?_
  rintro e w2 ⟨⟨k, rfl, hk⟩, q, rfl⟩
  have X2 : Hid (Box (w1b.drewN q) w1.heap.size 34 #[.slice h1'.a0 (vs).length h1'.c0, .slice h1'.a1 (ws).length h1'.c1]) := X1.out.belowS (below_drewN (Below.refl _ _) q)
  have B2 : Hid (Below w.heap.size w (w1b.drewN q)) := below_drewN B1.out q
  have O2 : Hid (RdL (w1b.drewN q) h1' vs ws) := O1.out.below (below_drewN (Below.refl _ _) q)
  obtain ⟨wd, hwd⟩ : ∃ Q, w1b.drewN q = Q := ⟨_, rfl⟩
  rw [hwd] at X2 B2 O2 ⊢
  obtain ⟨x, hx⟩ : ∃ x : Int, 1 + (k : Int) = x := ⟨_, rfl⟩
  have hxb : 1 ≤ x ∧ x ≤ 60 := by omega
  have sx : IntKind.i64.wrap (1 + (k : Int)) = x := by rw [hx]; simp [IntKind.wrap_i64]; omega
  have HX : Hid (inB x 1 60 = true) := by unfold Hid inB; exact decide_eq_true hxb
  obtain ⟨U, TT, e1, e2, e3, hokU, e4, e5, e6, e7, e8, hne⟩ := free_facts vs ws x HOK.out HX.out
  obtain ⟨u0, u1, _, _⟩ := okLs_parts hokU
  have HNE : Hid (∀ k, k < TT.length → (TT.getD k dW).x ≠ x ∧ (TT.getD k dW).f ≠ x) := hne
  have CI : Hid (∀ (W : World), Below wd.heap.size wd W → Calls Tryd.prog 29 #[.agg #[.slice h1'.a0 (vs).length h1'.c0, .slice h1'.a1 (ws).length h1'.c1], .int .i64 x] W fun e w' => (∃ h' : HL, e = .returned (.tuple #[.agg #[.slice h'.a0 (U).length h'.c0, .slice h'.a1 (TT).length h'.c1], .int .i64 0]) ∧ OwnL w' W.heap.size h' U TT) ∧ Below W.heap.size W w') := fun W hW => by
    have := c_implFL h1' vs ws x W (O2.out.below hW) (by omega) (by omega) ((HT.out.below B2.out).below hW)
    rw [e1, e2, e3] at this
    exact this
  have CS : Hid (∀ (W : World), Below wd.heap.size wd W → Calls Tryd.prog 28 #[.agg #[.slice h1'.a0 (vs).length h1'.c0, .slice h1'.a1 (ws).length h1'.c1], .int .i64 x] W fun e w' => (∃ h' : HL, e = .returned (.tuple #[.agg #[.slice h'.a0 (U).length h'.c0, .slice h'.a1 (TT).length h'.c1], .int .i64 0]) ∧ OwnL w' W.heap.size h' U TT) ∧ Below W.heap.size W w') := fun W hW => by
    have := c_specFL h1' vs ws x W (O2.out.below hW) (by omega) (by omega)
    rw [e1, e2, e3] at this
    exact this
  have CL : Hid (∀ (W : World) (h : HL), RdL W h U TT → FitH W → Calls Tryd.prog 23 #[.agg #[.slice h.a0 (U).length h.c0, .slice h.a1 (TT).length h.c1], .int .i64 x] W fun e w' => (∃ ha hc, e = .returned (.tuple #[.slice ha 0 hc, .int .i64 0])) ∧ Below W.heap.size W w') := fun W h r f => by
    refine (c_implLT h U TT x W r (by omega) (by omega) f).mono ?_
    rintro e w' ⟨⟨ha, hc, he, _⟩, hb⟩
    rw [e4, e5] at he
    exact ⟨⟨ha, hc, he⟩, hb⟩
  have CF : Hid (∀ (W : World) (h : HL), RdL W h U TT → FitH W → Calls Tryd.prog 29 #[.agg #[.slice h.a0 (U).length h.c0, .slice h.a1 (TT).length h.c1], .int .i64 x] W fun e w' => (∃ h' : HL, e = .returned (.tuple #[.agg #[.slice h'.a0 (U).length h'.c0, .slice h'.a1 (TT).length h'.c1], .int .i64 0]) ∧ OwnL w' W.heap.size h' U TT) ∧ Below W.heap.size W w') := fun W h r f => by
    have := c_implFL h U TT x W r (by omega) (by omega) f
    rw [e6, e7, e8] at this
    exact this
  clear hne hokU e1 e2 e3 e4 e5 e6 e7 e8 hx X1 B1 O1 R1 hw1b hwd
  obtain ⟨x0, x1⟩ := box2 X2.out
  go_wp2_with fail
  refine (CI.out wd (Below.refl _ _)).mono ?_
  rintro e w3 ⟨⟨h3, rfl, o3⟩, hb⟩
  obtain ⟨w3b, hw3b⟩ : ∃ Q, w3.alloc (.cells #[.slice h3.a0 (U).length h3.c0, .slice h3.a1 (TT).length h3.c1] 34) = Q := ⟨_, rfl⟩
  have hb3b : Below w3.heap.size w3 w3b := by rw [← hw3b]; exact (Below.refl _ _).alloc (Nat.le_refl _) _
  have X3 : Hid (Box w3b w3.heap.size 34 #[.slice h3.a0 (U).length h3.c0, .slice h3.a1 (TT).length h3.c1]) := by unfold Hid; rw [← hw3b]; exact Box.new _ _ _
  have S3 : Hid (Below wd.heap.size wd w3b) := hb.trans (hb3b.mono hb.size)
  have O3 : Hid (RdL w3b h3 U TT) := (o3.below hb3b).rd
  clear hb hb3b o3 x0 x1
  obtain ⟨x0, x1⟩ := box2 (X2.out.belowS S3.out)
  go_wp2_with fail
  refine (CS.out w3b S3.out).mono ?_
  rintro e w4 ⟨⟨h4, rfl, o4⟩, hb⟩
  obtain ⟨w4b, hw4b⟩ : ∃ Q, w4.alloc (.cells #[.slice h4.a0 (U).length h4.c0, .slice h4.a1 (TT).length h4.c1] 34) = Q := ⟨_, rfl⟩
  have hb4b : Below w4.heap.size w4 w4b := by rw [← hw4b]; exact (Below.refl _ _).alloc (Nat.le_refl _) _
  have X4 : Hid (Box w4b w4.heap.size 34 #[.slice h4.a0 (U).length h4.c0, .slice h4.a1 (TT).length h4.c1]) := by unfold Hid; rw [← hw4b]; exact Box.new _ _ _
  have hb34 : Below w3b.heap.size w3b w4b := hb.trans (hb4b.mono hb.size)
  have S4 : Hid (Below wd.heap.size wd w4b) := S3.out.trans (hb34.mono S3.out.size)
  have X34 : Hid (Box w4b w3.heap.size 34 #[.slice h3.a0 (U).length h3.c0, .slice h3.a1 (TT).length h3.c1]) := X3.out.belowS hb34
  have O34 : Hid (RdL w4b h3 U TT) := O3.out.below hb34
  have O4 : Hid (RdL w4b h4 U TT) := (o4.below hb4b).rd
  have T4 : Hid (FitH w4b) := (HT.out.below B2.out).below S4.out
  clear hb hb4b hb34 o4 x0 x1 X3 O3
  obtain ⟨x0, x1⟩ := box2 X34.out
  go_wp2_with fail
  refine (CL.out w4b h3 O34.out T4.out).mono ?_
  rintro e w5 ⟨⟨la, lc, rfl⟩, hb⟩
  have S5 : Hid (Below wd.heap.size wd w5) := S4.out.trans (hb.mono S4.out.size)
  have X5 : Hid (Box w5 w3.heap.size 34 #[.slice h3.a0 (U).length h3.c0, .slice h3.a1 (TT).length h3.c1]) := X34.out.belowS hb
  have X5b : Hid (Box w5 w4.heap.size 34 #[.slice h4.a0 (U).length h4.c0, .slice h4.a1 (TT).length h4.c1]) := X4.out.belowS hb
  have O5 : Hid (RdL w5 h3 U TT) := O34.out.below hb
  have O5b : Hid (RdL w5 h4 U TT) := O4.out.below hb
  clear hb x0 x1 X34 O34 X4 O4
  obtain ⟨x0, x1⟩ := box2 X5.out
  obtain ⟨y0, y1⟩ := box2 X5b.out
  go_wp2_with fail
  refine (c_sameL h3 h4 U TT w5 O5.out O5b.out u0 u1).mono ?_
  rintro e w6 ⟨rfl, hb⟩
  have S6 : Hid (Below wd.heap.size wd w6) := S5.out.trans (hb.mono S5.out.size)
  have X6 : Hid (Box w6 w3.heap.size 34 #[.slice h3.a0 (U).length h3.c0, .slice h3.a1 (TT).length h3.c1]) := X5.out.belowS hb
  have O6 : Hid (RdL w6 h3 U TT) := O5.out.below hb
  clear hb x0 x1 y0 y1 X5 X5b O5 O5b
  go_wp2
  go_loopw [13] (fun s wr => ∃ k : Nat, k ≤ TT.length ∧ s = .int .i64 (k : Int) ∧ Hid (Below w6.heap.size w6 wr)) (fun s _ => TT.length - (intOf s).toNat)
  case atStart => exact ⟨0, by omega, rfl, Below.refl _ _⟩
  case round =>
    obtain ⟨k2, hk2, rfl, HB⟩ := hrel
    have XR := X6.out.belowS HB.out
    obtain ⟨x0, x1⟩ := box2 XR
    by_cases hlt : k2 < TT.length
    · obtain ⟨_, hcs⟩ := O6.out.2.below HB.out
      obtain ⟨ba, off, ha', hbl, hc⟩ := hcs (by omega)
      obtain ⟨hne1, hne2⟩ := HNE.out k2 hlt
      obtain ⟨⟨vx, vf⟩, hv⟩ : ∃ v, v = TT.getD k2 dW := ⟨_, rfl⟩
      obtain ⟨d0, d1⟩ := hc k2 hlt
      rw [← hv] at d0 d1 hne1 hne2
      rw [ha'] at x1
      have cx : (vx == x) = false := by simpa using hne1
      have cf : (vf == x) = false := by simpa using hne2
      clear hc hcs hv ha' XR hne1 hne2
      go_wp2
      go_roundw
      case rel => exact ⟨k2 + 1, by omega, by go_num, HB⟩
      case measure => simp [intOf]; omega
    · have cge : ¬ (k2 : Int) < (TT.length : Int) := by omega
      have SR : Hid (Below wd.heap.size wd wr) := S6.out.trans (HB.out.mono S6.out.size)
      have OR : Hid (RdL wr h3 U TT) := O6.out.below HB.out
      clear hlt
      go_wp2_with fail
      refine (CF.out wr h3 OR.out ((HT.out.below B2.out).below SR.out)).mono ?_
      rintro e w7 ⟨⟨h7, rfl, o7⟩, hb⟩
      obtain ⟨w8, hw8⟩ : ∃ Q, w7.alloc (.cells #[.slice h7.a0 (U).length h7.c0, .slice h7.a1 (TT).length h7.c1] 34) = Q := ⟨_, rfl⟩
      have hb8 : Below w7.heap.size w7 w8 := by rw [← hw8]; exact (Below.refl _ _).alloc (Nat.le_refl _) _
      have hb78 : Below wr.heap.size wr w8 := hb.trans (hb8.mono hb.size)
      have X8 : Hid (Box w8 w7.heap.size 34 #[.slice h7.a0 (U).length h7.c0, .slice h7.a1 (TT).length h7.c1]) := by unfold Hid; rw [← hw8]; exact Box.new _ _ _
      have X9 : Hid (Box w8 w3.heap.size 34 #[.slice h3.a0 (U).length h3.c0, .slice h3.a1 (TT).length h3.c1]) := XR.belowS hb78
      have O8 : Hid (RdL w8 h7 U TT) := (o7.below hb8).rd
      have O9 : Hid (RdL w8 h3 U TT) := OR.out.below hb78
      have S8 : Hid (Below wd.heap.size wd w8) := SR.out.trans (hb78.mono SR.out.size)
      clear hb hb8 hb78 o7 x0 x1 XR OR SR
      obtain ⟨x0, x1⟩ := box2 X8.out
      obtain ⟨y0, y1⟩ := box2 X9.out
      go_wp2_with fail
      refine (c_sameL h7 h3 U TT w8 O8.out O9.out u0 u1).mono ?_
      rintro e w9 ⟨rfl, hb⟩
      have BZ : Hid (Below w.heap.size w w9) := B2.out.trans ((S8.out.trans (hb.mono S8.out.size)).mono B2.out.size)
      clear hb x0 x1 y0 y1
      go_wp2
      go_ret
      exact ⟨rfl, BZ.out⟩

end Go.Proofs.YtmkfclbamecgaaaDoor
