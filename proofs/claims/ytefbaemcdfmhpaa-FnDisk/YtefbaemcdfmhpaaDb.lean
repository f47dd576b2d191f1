/-
  The draw of a disk.
-/
import Derived.Test.YtefbaemcdfmhpaaDa
namespace Go.Proofs.Ytefbaemcdfmhpaa
open Go Go.RowKit
attribute [local go_sem ↓] Go.wp_at_zero Go.wp_at_succ


set_option maxHeartbeats 8000000 in
theorem c_disk (w0 w : World) (g : Nat) (a : Option Addr) (n c T : Nat) (zs : List Int) (hd : Drw w0 w g a n c T zs) (hT : T ≤ 800000) :
    Calls Try.prog 43 #[.pointer (some ⟨g, 0, none⟩)] w fun e w' => (∃ (h' : HD) (D : DD), e = .returned (.agg #[.slice h'.a0 h'.n0 h'.c0, .slice h'.a1 h'.n1 h'.c1, .bool h'.b, .slice h'.a2 h'.n2 h'.c2]) ∧ OwnD w' w.heap.size w'.heap.size h' D ∧ okD D = true ∧ D.C.length ≤ 7) ∧ Drw w0 w' g a n c (T + 200) zs ∧ Inn g (g + 1) w w' := by
  have hgl : g < w.heap.size := hd.src.lt
  have HD0 : Hid (Drw w0 (w.alloc (.cells #[.slice none 0 0, .slice none 0 0, .bool false, .slice none 0 0] 27)) g a n c T zs) := hd.below ((Below.refl _ _).alloc (Nat.le_refl _) _)
  have BR0 : Hid (Box (w.alloc (.cells #[.slice none 0 0, .slice none 0 0, .bool false, .slice none 0 0] 27)) w.heap.size 27 #[.slice none 0 0, .slice none 0 0, .bool false, .slice none 0 0]) := Box.new _ _ _
  have HI0 : Hid (Inn g (g + 1) w (w.alloc (.cells #[.slice none 0 0, .slice none 0 0, .bool false, .slice none 0 0] 27))) := Inn.of_below ((Below.refl _ _).alloc (Nat.le_refl _) _)
  clear hd
  go_enter Try.func43, Try.ntmps43
  go_wp2_with fail
  refine (c_next w0 _ g a n c T zs 9 HD0.out (by omega) (by omega)).mono ?_
  rintro e w1 ⟨⟨r9, rfl, r90, r91⟩, hd1, hi1⟩
  obtain ⟨q9, rfl⟩ : ∃ q : Nat, r9 = (q : Int) := ⟨r9.toNat, by omega⟩
  have HD1 : Hid (Drw w0 w1 g a n c (T + 1) zs) := hd1
  have HI1 : Hid (Inn g (g + 1) w w1) := HI0.out.trans hi1
  have BR1 : Hid (Box w1 w.heap.size 27 #[.slice none 0 0, .slice none 0 0, .bool false, .slice none 0 0]) := BR0.out.innO hi1 (.inr hgl)
  have s1 : w.heap.size < w1.heap.size := BR1.out.lt
  clear hd1 hi1 HD0 HI0 BR0
  have CN : Hid (∀ W, Calls Try.prog 58 #[.int .i64 (1 + (q9 : Int))] W fun e w' => (∃ h' : HD, e = .returned (.agg #[.slice h'.a0 h'.n0 h'.c0, .slice h'.a1 h'.n1 h'.c1, .bool h'.b, .slice h'.a2 h'.n2 h'.c2]) ∧ OwnD w' W.heap.size w'.heap.size h' (newD (1 + q9))) ∧ Below W.heap.size W w') := fun W => by
    have := c_l02New (1 + q9) W (by omega)
    simpa using this
  go_wp2_with fail
  refine (CN.out w1).mono ?_
  rintro e w2 ⟨⟨h2, rfl, o2⟩, hb2⟩
  have s2 : w1.heap.size ≤ w2.heap.size := hb2.size
  obtain ⟨W3, hW3⟩ : ∃ W, w2.alloc (.cells #[.slice h2.a0 h2.n0 h2.c0, .slice h2.a1 h2.n1 h2.c1, .bool h2.b, .slice h2.a2 h2.n2 h2.c2] 27) = W := ⟨_, rfl⟩
  have hb3 : Below w2.heap.size w2 W3 := by rw [← hW3]; exact (Below.refl _ _).alloc (Nat.le_refl _) _
  have bd3 : Box W3 w2.heap.size 27 #[.slice h2.a0 h2.n0 h2.c0, .slice h2.a1 h2.n1 h2.c1, .bool h2.b, .slice h2.a2 h2.n2 h2.c2] := by have := Box.new w2 #[.slice h2.a0 h2.n0 h2.c0, .slice h2.a1 h2.n1 h2.c1, .bool h2.b, .slice h2.a2 h2.n2 h2.c2] 27; rwa [hW3] at this
  have S3 : St w0 w W3 g w.heap.size w2.heap.size a n c (T + 1) zs h2 (newD (1 + q9)) := ⟨(HD1.out.below hb2).below hb3, (HI1.out.trans (Inn.of_below hb2)).trans (Inn.of_below hb3), (BR1.out.belowS hb2).belowS hb3, bd3, (o2.dok (by omega) (ok_new _ (by omega))).below hb3, ⟨fun e => by have := o2.2.2.2.2.2.1 _ e; omega, fun e => by have := o2.2.2.2.2.2.1 _ e; omega⟩, ⟨fun e => by have := o2.2.2.2.2.2.2.1 _ e; omega, fun e => by have := o2.2.2.2.2.2.2.1 _ e; omega⟩, ⟨fun e => by have := o2.2.2.2.2.2.2.2 _ e; omega, fun e => by have := o2.2.2.2.2.2.2.2 _ e; omega⟩⟩
  have HS3 : Hid (St w0 w W3 g w.heap.size w2.heap.size a n c (T + 1) zs h2 (newD (1 + q9))) := S3
  obtain ⟨d, hdd⟩ : ∃ d, d = w2.heap.size := ⟨_, rfl⟩
  rw [← hdd] at HS3
  have hwd : w.heap.size < d := by omega
  clear o2 hb2 hb3 bd3 S3 HD1 HI1 BR1 CN
  go_wp2_with fail
  refine (c_next w0 _ g a n c (T + 1) zs 8 HS3.out.drw (by omega) (by omega)).mono ?_
  rintro e w4 ⟨⟨r8, rfl, r80, r81⟩, hd4, hi4⟩
  obtain ⟨q8, rfl⟩ : ∃ q : Nat, r8 = (q : Int) := ⟨r8.toNat, by omega⟩
  have HS4 : Hid (St w0 w w4 g w.heap.size d a n c (T + 2) zs h2 (newD (1 + q9))) := HS3.out.next hd4 hi4 (by omega) (by omega)
  clear hd4 hi4 HS3
  rw [← hdd]
  clear hdd hW3
  go_wp2
  go_loopw [4] (fun i wr => ∃ (k : Nat) (h : HD) (D : DD), k ≤ 7 ∧ i = .int .i64 k ∧ D.C.length + k ≤ 7 ∧ St w0 w wr g w.heap.size d a n c (T + 2 + 20 * (7 - k)) zs h D) (fun i _ => (intOf i).toNat)
  case atStart => exact ⟨q8, h2, newD (1 + q9), by omega, rfl, by show 0 + q8 ≤ 7; omega, ⟨HS4.out.drw.mono (by omega), HS4.out.inn, HS4.out.res, HS4.out.cel, HS4.out.dok, HS4.out.n0, HS4.out.n1, HS4.out.n2⟩⟩
  case round =>
    obtain ⟨k, h, D, hk, rfl, hC, S⟩ := hrel
    have HS : Hid (St w0 w wr g w.heap.size d a n c (T + 2 + 20 * (7 - k)) zs h D) := S
    clear S
    by_cases hpos : 0 < k
    · go_wp2_with fail
      refine (c_next w0 wr g a n c _ zs 5 HS.out.drw (by omega) (by omega)).mono ?_
      rintro e w5 ⟨⟨r5, rfl, r50, r51⟩, hd5, hi5⟩
      have HS5 : Hid (St w0 w w5 g w.heap.size d a n c (T + 2 + 20 * (7 - k) + 1) zs h D) := HS.out.next hd5 hi5 (by omega) (by omega)
      have S5 := HS5.out
      have hfit := ok_fit S5.dok.ok
      have hlen := (ok_parts S5.dok.ok).1
      have kn := S5.dok.rd.l0
      obtain ⟨v0, v1, v2, v3⟩ := box4 S5.cel
      have l5 := S5.cel.lt
      clear hd5 hi5 HS S5
      have HF : Hid (Fit D) := hfit
      clear hfit
      by_cases h0 : r5 = 0
      · subst h0
        go_wp2_with fail
        refine (c_specSync h D w5 HS5.out.dok.rd HS5.out.dok.src HF.out HS5.out.dok.ok).mono ?_
        rintro e w8 ⟨⟨h8, rfl, o8⟩, hb8⟩
        have S8 := HS5.out.below hb8
        have hok8 := ok_sync HS5.out.dok.ok
        have SP : Hid (St w0 w _ g w.heap.size d a n c (T + 2 + 20 * (7 - k) + 1) zs h8 (syncD D)) := S8.put (o8.dok (by omega) hok8) (by omega) (by omega) (by omega) ⟨fun e => by have := (o8.2.2.2.2.2.1 _ e).1; omega, fun e => by have := (o8.2.2.2.2.2.1 _ e).1; omega⟩ ⟨fun e => by have := (o8.2.2.2.2.2.2.1 _ e).1; omega, fun e => by have := (o8.2.2.2.2.2.2.1 _ e).1; omega⟩ ⟨fun e => by have := (o8.2.2.2.2.2.2.2 _ e).1; omega, fun e => by have := (o8.2.2.2.2.2.2.2 _ e).1; omega⟩
        have hC8 : (syncD D).C.length = 0 := by rw [sync_C]; rfl
        clear v0 v1 v2 v3
        obtain ⟨v0, v1, v2, v3⟩ := box4 S8.cel
        have z0 := S8.cel.thaw 0
        have z1 := S8.cel.thaw 1
        have z2 := S8.cel.thaw 2
        have z3 := S8.cel.thaw 3
        clear o8 hb8 S8 hok8
        go_wp2
        go_roundw
        case rel => exact ⟨k - 1, h8, syncD D, by omega, by go_num, by omega, ⟨SP.out.drw.mono (by omega), SP.out.inn, SP.out.res, SP.out.cel, SP.out.dok, SP.out.n0, SP.out.n1, SP.out.n2⟩⟩
        case measure => simp [intOf]; omega
      · have e0 : (r5 == 0) = false := by simpa using h0
        by_cases h1 : r5 = 1
        · subst h1
          go_wp2_with fail
          refine (c_chance w0 w5 g a n c _ zs 4 HS5.out.drw (by omega) (by omega)).mono ?_
          rintro e w6 ⟨⟨bb, rfl⟩, hd6, hi6⟩
          have HS6 : Hid (St w0 w w6 g w.heap.size d a n c (T + 2 + 20 * (7 - k) + 1 + 1) zs h D) := HS5.out.next hd6 hi6 (by omega) (by omega)
          clear hd6 hi6 v0 v1 v2 v3 l5
          have S6 := HS6.out
          obtain ⟨v0, v1, v2, v3⟩ := box4 S6.cel
          have l6 := S6.cel.lt
          clear S6 HS5
          cases bb
          · go_wp2
            go_roundw
            case rel => exact ⟨k - 1, h, D, by omega, by go_num, by omega, ⟨HS6.out.drw.mono (by omega), HS6.out.inn, HS6.out.res, HS6.out.cel, HS6.out.dok, HS6.out.n0, HS6.out.n1, HS6.out.n2⟩⟩
            case measure => simp [intOf]; omega
          · go_wp2_with fail
            go_region_with (first
              | (go_at_call 52
                 refine (c_keeps w0 _ g a n c (T + 2 + 20 * (7 - k) + 1 + 1) zs ?_ (by omega)).mono ?_
                 · exact HS6.out.drew.drw
                 rintro e w7 ⟨⟨K, ka, kc, rfl, hK, ok⟩, hd7, hi7⟩
                 have S7 := HS6.out.drew.next hd7 hi7 (by omega) (by omega)
                 obtain ⟨u0, u1, u2, u3⟩ := box4 S7.cel
                 have l7 := S7.cel.lt
                 have HS7 : Hid (St w0 w w7 g w.heap.size d a n c (T + 2 + 20 * (7 - k) + 1 + 1 + 13) zs h D) := S7
                 have HOK7 : Hid (w7.ownsRow w6.drew.heap.size 3 1 (.slice ka K.length kc) K.length (K.map (Value.int .i64))) := ok
                 clear S7 hd7 hi7 ok)
              | (go_at_call 72
                 refine (c_l02Arm h D K ka K.length kc w7 HF.out (by omega) HS7.out.dok.rd HS7.out.dok.src (RdV.own HOK7.out) (own_src HOK7.out)).mono ?_
                 rintro e w8 ⟨⟨h8, rfl, o8⟩, hb8⟩
                 have S8 := HS7.out.below hb8
                 have hok8 := ok_arm HS7.out.dok.ok (K := K) (by omega)
                 have SP : Hid (St w0 w _ g w.heap.size d a n c (T + 2 + 20 * (7 - k) + 1 + 1 + 13) zs h8 (armD D K)) := S8.put (o8.dok (by omega) hok8) (by omega) (by omega) (by omega) ⟨fun e => by have := (o8.2.2.2.2.2.1 _ e).1; omega, fun e => by have := (o8.2.2.2.2.2.1 _ e).1; omega⟩ ⟨fun e => by have := (o8.2.2.2.2.2.2.1 _ e).1; omega, fun e => by have := (o8.2.2.2.2.2.2.1 _ e).1; omega⟩ ⟨fun e => by have := (o8.2.2.2.2.2.2.2 _ e).1; omega, fun e => by have := (o8.2.2.2.2.2.2.2 _ e).1; omega⟩
                 obtain ⟨t0, t1, t2, t3⟩ := box4 S8.cel
                 have z0 := S8.cel.thaw 0
                 have z1 := S8.cel.thaw 1
                 have z2 := S8.cel.thaw 2
                 have z3 := S8.cel.thaw 3
                 clear o8 hb8 S8 hok8))
            all_goals
              go_wp2
              go_roundw
              case rel => exact ⟨k - 1, h8, armD D K, by omega, by go_num, by show D.C.length + (k - 1) ≤ 7; omega, ⟨SP.out.drw.mono (by omega), SP.out.inn, SP.out.res, SP.out.cel, SP.out.dok, SP.out.n0, SP.out.n1, SP.out.n2⟩⟩
              case measure => simp [intOf]; omega
        · have e1 : (r5 == 1) = false := by simpa using h1
          have CNX : Hid (∀ W, (W = w5.drew ∨ W = w5.drew.alloc (.cells #[.string ⟨#[]⟩, .string ⟨#[111, 110, 101]⟩, .string ⟨#[116, 119, 111]⟩] 9)) → Calls Try.prog 73 #[.pointer (some ⟨g, 0, none⟩), .int .i64 (h.n0 : Int)] W fun e w' => (∃ x : Int, e = .returned (.int .i64 x) ∧ 0 ≤ x ∧ x < (h.n0 : Int)) ∧ St w0 w w' g w.heap.size d a n c (T + 2 + 20 * (7 - k) + 1 + 1) zs h D ∧ (W = w5.drew.alloc (.cells #[.string ⟨#[]⟩, .string ⟨#[111, 110, 101]⟩, .string ⟨#[116, 119, 111]⟩] 9) → RdV w' (some ⟨w5.heap.size, 0, none⟩) 3 (lst3.map Value.string)) ∧ w5.heap.size ≤ w'.heap.size) := fun W hW => by
            have hbW : Below w5.heap.size w5 W := by rcases hW with rfl | rfl; exact (Below.refl _ _).drew; exact (Below.refl _ _).drew.alloc (Nat.le_refl _) _
            have SW := HS5.out.below hbW
            refine (c_next w0 W g a n c _ zs h.n0 SW.drw (by omega) (by omega)).mono ?_
            rintro e w' ⟨hx, hd', hi'⟩
            refine ⟨hx, SW.next hd' hi' (by omega) (by omega), fun e => ?_, Nat.le_trans hbW.size hi'.size⟩
            have hr : RdV W (some ⟨w5.heap.size, 0, none⟩) 3 (lst3.map Value.string) := by rw [e]; exact lst_rd w5.drew
            exact rdV_inn hr hi' (fun b e => by have e' : w5.heap.size = b := Option.some.inj e; omega)
          have hw5 : d < w5.heap.size := l5
          go_wp2_with fail
          go_region_with (first
            | (go_at_call 73
               refine (CNX.out _ ?_).mono ?_
               · first | exact .inl rfl | exact .inr rfl
               rintro e w6 ⟨⟨x, rfl, x0, x1⟩, S6, hl6, hs6⟩
               obtain ⟨u0, u1, u2, u3⟩ := box4 S6.cel
               have l6 := S6.cel.lt
               have HS6 : Hid (St w0 w w6 g w.heap.size d a n c (T + 2 + 20 * (7 - k) + 1 + 1) zs h D) := S6
               have CP : Hid (∀ W la, ((W = w6 ∧ la = some ⟨w5.heap.size, 0, none⟩ ∧ RdV w6 (some ⟨w5.heap.size, 0, none⟩) 3 (lst3.map Value.string)) ∨ (W = w6.alloc (.cells #[.string ⟨#[]⟩, .string ⟨#[111, 110, 101]⟩, .string ⟨#[116, 119, 111]⟩] 9) ∧ la = some ⟨w6.heap.size, 0, none⟩)) → Calls Try.prog 75 #[.pointer (some ⟨g, 0, none⟩), .slice la 3 3] W fun e w' => (∃ s ∈ lst3, e = .returned (.string s)) ∧ St w0 w w' g w.heap.size d a n c (T + 2 + 20 * (7 - k) + 1 + 1 + 1) zs h D) := fun W la hW => pick_st HS6.out hW (by omega) (by omega) (by omega) (by omega)
               clear S6)
            | (go_at_call 75
               refine (CP.out _ _ ?_).mono ?_
               · first | exact .inl ⟨rfl, rfl, hl6 rfl⟩ | exact .inr ⟨rfl, rfl⟩
               rintro e w7 ⟨⟨s, hs, rfl⟩, S7⟩
               obtain ⟨t0, t1, t2, t3⟩ := box4 S7.cel
               have l7 := S7.cel.lt
               have HS7 : Hid (St w0 w w7 g w.heap.size d a n c (T + 2 + 20 * (7 - k) + 1 + 1 + 1) zs h D) := S7
               have hss : s.size ≤ 160 := lst_size s hs
               clear S7)
            | (go_at_call 48
               refine (c_l02Write h D x s w7 HF.out HS7.out.dok.rd HS7.out.dok.src).mono ?_
               rintro e w8 ⟨⟨h8, rfl, r8, hk8, ha0, ha2, ha1⟩, hb8⟩
               have S8 := HS7.out.below hb8
               have hok8 := ok_write HS7.out.dok.ok (x := x) (s := s) (by omega) (by omega) hss
               have D8 : DOk w8 g h8 (wrD D x s) := ⟨r8, hk8, hok8, by rw [ha0]; exact HS7.out.dok.b0, fun b e => by have := ha1 b e; omega, by rw [ha2]; exact HS7.out.dok.b2⟩
               have SP : Hid (St w0 w _ g w.heap.size d a n c (T + 2 + 20 * (7 - k) + 1 + 1 + 1) zs h8 (wrD D x s)) := S8.put D8 (by omega) (by omega) (by omega) (by rw [ha0]; exact HS7.out.n0) ⟨fun e => by have := ha1 _ e; omega, fun e => by have := ha1 _ e; omega⟩ (by rw [ha2]; exact HS7.out.n2)
               obtain ⟨y0, y1, y2, y3⟩ := box4 S8.cel
               have z0 := S8.cel.thaw 0
               have z1 := S8.cel.thaw 1
               have z2 := S8.cel.thaw 2
               have z3 := S8.cel.thaw 3
               clear r8 hk8 ha0 ha2 ha1 hb8 S8 hok8 D8))
          all_goals
            have hCw : (wrD D x s).C.length = D.C.length + 1 := by show (D.C ++ [(x, s)]).length = _; simp
            go_wp2
            go_roundw
            case rel => exact ⟨k - 1, h8, wrD D x s, by omega, by go_num, by omega, ⟨SP.out.drw.mono (by omega), SP.out.inn, SP.out.res, SP.out.cel, SP.out.dok, SP.out.n0, SP.out.n1, SP.out.n2⟩⟩
            case measure => simp [intOf]; omega
    · have e : k = 0 := by omega
      subst e
      have S := HS.out
      obtain ⟨v0, v1, v2, v3⟩ := box4 S.cel
      have lS := S.cel.lt
      have hfit := ok_fit S.dok.ok
      have HF : Hid (Fit D) := hfit
      clear S hfit
      go_wp2_with fail
      refine (c_own h D wr HS.out.dok.rd HS.out.dok.src HF.out).mono ?_
      rintro e w8 ⟨⟨h8, rfl, o8⟩, hb8⟩
      have S8 := HS.out.below hb8
      have O : Hid (OwnD w8 wr.heap.size w8.heap.size h8 D) := o8
      have HS8 : Hid (St w0 w w8 g w.heap.size d a n c (T + 2 + 20 * (7 - 0)) zs h D) := S8
      have swr : w.heap.size ≤ wr.heap.size := HS.out.inn.size
      have lr := HS.out.res.lt
      obtain ⟨y0, y1, y2, y3⟩ := box4 S8.res
      have z0 := S8.res.thaw 0
      have z1 := S8.res.thaw 1
      have z2 := S8.res.thaw 2
      have z3 := S8.res.thaw 3
      clear o8 hb8 S8 v0 v1 v2 v3
      go_wp2
      have hi : Inn w.heap.size (w.heap.size + 1) w8 ((((w8.setCell ⟨w.heap.size, 0, none⟩ (.slice h8.a0 h8.n0 h8.c0)).setCell ⟨w.heap.size, 1, none⟩ (.slice h8.a1 h8.n1 h8.c1)).setCell ⟨w.heap.size, 2, none⟩ (.bool h8.b)).setCell ⟨w.heap.size, 3, none⟩ (.slice h8.a2 h8.n2 h8.c2)) := ((((Inn.refl _ _ _).set _ _ (by simp)).set _ _ (by simp)).set _ _ (by simp)).set _ _ (by simp)
      refine ret_box1 Try.results43 rfl rfl (put4_box HS8.out.res _ _ _ _) ⟨⟨h8, D, rfl, O.out.put swr (by simp) lr (fun g hg => put4_same _ _ _ _ _ _ _ hg), HS8.out.dok.ok, by omega⟩, (HS8.out.drw.inn hi (.inl (by omega)) (by have := HS8.out.drw.behind; omega)).mono (by omega), ?_⟩
      exact ⟨hi.os.trans HS8.out.inn.os, hi.tape.trans HS8.out.inn.tape, hi.output.trans HS8.out.inn.output, Nat.le_trans HS8.out.inn.size hi.size, fun k hk ho => (hi.block k (Nat.lt_of_lt_of_le hk HS8.out.inn.size) (.inl hk)).trans (HS8.out.inn.block k hk ho)⟩
end Go.Proofs.Ytefbaemcdfmhpaa
