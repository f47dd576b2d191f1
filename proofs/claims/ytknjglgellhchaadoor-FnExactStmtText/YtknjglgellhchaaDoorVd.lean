/-
  StmtText: both sides at any statement.
-/
import Derived.Test.YtknjglgellhchaaDoorVb
import Derived.Test.YtknjglgellhchaaDoorVc1
import Derived.Test.YtknjglgellhchaaDoorVc2
import Derived.Test.YtknjglgellhchaaDoorVc3
import Derived.Test.YtknjglgellhchaaDoorVcU0
import Derived.Test.YtknjglgellhchaaDoorVcU1
import Derived.Deep.RegionHeld3
namespace Go.Proofs.YtknjglgellhchaaDoor
open Go Go.RowKit
attribute [local go_sem ↓] Go.wp_at_zero Go.wp_at_succ

set_option linter.unusedVariables false
set_option linter.unusedSimpArgs false
theorem noB_eq {o : Int} {d : Bool} (h : noB o d = true) : o = 0 ∧ d = false := by
  unfold noB at h
  simp at h
  exact h
theorem st_parts {k tb : Int} {rz rk : Bool} {c : Int} {sn : Nat} {okS : Bool} {wn : Nat} {okW : Bool} {o : Int} {d : Bool} (h : stB k tb rz rk c sn okS wn okW o d = true) :
    (1 ≤ tb ∧ tb ≤ 3) ∧ (k = 1 ∧ (0 ≤ o ∧ o ≤ 2) ∨ k = 2 ∧ (wn == 0) = true ∧ noB o d = true ∨ k = 3 ∧ (1 ≤ c ∧ c ≤ 2) ∧ noB o d = true ∨ k = 4 ∧ noB o d = true) := by
  unfold stB inB at h
  by_cases k1 : k = 1
  · rw [if_pos k1] at h
    simp only [Bool.and_eq_true, decide_eq_true_eq] at h
    exact ⟨h.1, .inl ⟨k1, h.2.2.2.2⟩⟩
  rw [if_neg k1] at h
  by_cases k2 : k = 2
  · rw [if_pos k2] at h
    simp only [Bool.and_eq_true, decide_eq_true_eq] at h
    exact ⟨h.1, .inr (.inl ⟨k2, h.2.2.2.1, h.2.2.2.2⟩)⟩
  rw [if_neg k2] at h
  by_cases k3 : k = 3
  · rw [if_pos k3] at h
    simp only [Bool.and_eq_true, decide_eq_true_eq] at h
    exact ⟨h.1, .inr (.inr (.inl ⟨k3, h.2.2.1, h.2.2.2.2.2⟩))⟩
  rw [if_neg k3] at h
  by_cases k4 : k = 4
  · rw [if_pos k4] at h
    simp only [Bool.and_eq_true, decide_eq_true_eq] at h
    exact ⟨h.1, .inr (.inr (.inr ⟨k4, h.2.2.2.2⟩))⟩
  rw [if_neg k4] at h
  simp at h
theorem c_implTx (k tb i : Int) (u v : VV) (c : Int) (sa : Option Addr) (sn sc : Nat) (wa : Option Addr) (wn wc : Nat) (o : Int) (d : Bool) (LS LW : List EN) (w : World) (h1 : u.2.2.size ≤ maxLen) (h2 : v.2.2.size ≤ maxLen) (s2 : RdE w sa sn LS) (hs : sn ≤ 1048576) (s3 : ∀ x ∈ LS, x.t.size ≤ maxLen) (w2 : RdE w wa wn LW) (hw : wn ≤ 1048576) (w3 : ∀ x ∈ LW, x.t.size ≤ maxLen) (T : TabX w) (hst : stB k tb (rowZ i u v) (rowB i u v) c sn (okX LS sn) wn (okX LW wn) o d = true) :
    Calls Tryd.prog 20 #[.agg #[.int .i64 k, .int .i64 tb, .int .i64 i, .int .i64 u.1, .int .i64 u.2.1, .string u.2.2, .int .i64 v.1, .int .i64 v.2.1, .string v.2.2, .int .i64 c, .slice sa sn sc, .slice wa wn wc, .int .i64 o, .bool d]] w fun e w' => e = .returned (.tuple #[.string (joinS (stL k tb i u v c LS sn LW wn o d)), .int .i64 0]) ∧ Below w.heap.size w w' := by
  obtain ⟨htb, ⟨rfl, ho⟩ | ⟨rfl, hwn, hno'⟩ | ⟨rfl, hcc, hno'⟩ | ⟨rfl, hno'⟩⟩ := st_parts hst
  · obtain ⟨on, rfl⟩ : ∃ m : Nat, o = (m : Int) := ⟨o.toNat, by omega⟩
    have hon : on < 3 := by omega
    cases hwn : (wn == 0)
    · skip
      by_cases hno' : noB (on : Int) d = true
      · obtain ⟨e0, rfl⟩ := noB_eq hno'
        obtain rfl : on = 0 := by omega
        rw [show ((0 : Nat) : Int) = 0 from rfl] at hst ⊢
        have hwn0 : ¬ wn = 0 := by simpa using hwn
        have e : stL 1 tb i u v c LS sn LW wn 0 false = [⟨#[115, 101, 108, 101, 99, 116]⟩, itB tb, ⟨#[119, 104, 101, 114, 101]⟩, xtS LW wn] := by simp [stL, kwT, midL, whL, orL, hwn0, show noB 0 false = true from rfl]
        rw [e]
        exact c_stI_S10 tb i u v c sa sn sc wa wn wc LS LW w h1 h2 s2 hs s3 w2 hw w3 T htb hst hwn
      · have hno0 : noB (on : Int) d = false := by simpa using hno'
        cases d
        · have hno := hno0
          have hwn0 : ¬ wn = 0 := by simpa using hwn
          have e : stL 1 tb i u v c LS sn LW wn (on : Int) false = [⟨#[115, 101, 108, 101, 99, 116]⟩, itB tb, ⟨#[119, 104, 101, 114, 101]⟩, xtS LW wn, ⟨#[111, 114, 100, 101, 114]⟩, clT (on : Int)] := by simp [stL, kwT, midL, whL, orL, hwn0, hno]
          rw [e]
          exact c_stI_S11 tb i u v c sa sn sc wa wn wc on LS LW w h1 h2 s2 hs s3 w2 hw w3 T htb hst hwn hon hno
        · have hno := hno0
          have hwn0 : ¬ wn = 0 := by simpa using hwn
          have e : stL 1 tb i u v c LS sn LW wn (on : Int) true = [⟨#[115, 101, 108, 101, 99, 116]⟩, itB tb, ⟨#[119, 104, 101, 114, 101]⟩, xtS LW wn, ⟨#[111, 114, 100, 101, 114]⟩, clT (on : Int), ⟨#[100, 101, 115, 99]⟩] := by simp [stL, kwT, midL, whL, orL, hwn0, hno]
          rw [e]
          exact c_stI_S12 tb i u v c sa sn sc wa wn wc on LS LW w h1 h2 s2 hs s3 w2 hw w3 T htb hst hwn hon hno
    · skip
      by_cases hno' : noB (on : Int) d = true
      · obtain ⟨e0, rfl⟩ := noB_eq hno'
        obtain rfl : on = 0 := by omega
        rw [show ((0 : Nat) : Int) = 0 from rfl] at hst ⊢
        have hwn0 : wn = 0 := by simpa using hwn
        have e : stL 1 tb i u v c LS sn LW wn 0 false = [⟨#[115, 101, 108, 101, 99, 116]⟩, itB tb] := by simp [stL, kwT, midL, whL, orL, hwn0, show noB 0 false = true from rfl]
        rw [e]
        exact c_stI_S00 tb i u v c sa sn sc wa wn wc LS LW w h1 h2 s2 hs s3 w2 hw w3 T htb hst hwn
      · have hno0 : noB (on : Int) d = false := by simpa using hno'
        cases d
        · have hno := hno0
          have hwn0 : wn = 0 := by simpa using hwn
          have e : stL 1 tb i u v c LS sn LW wn (on : Int) false = [⟨#[115, 101, 108, 101, 99, 116]⟩, itB tb, ⟨#[111, 114, 100, 101, 114]⟩, clT (on : Int)] := by simp [stL, kwT, midL, whL, orL, hwn0, hno]
          rw [e]
          exact c_stI_S01 tb i u v c sa sn sc wa wn wc on LS LW w h1 h2 s2 hs s3 w2 hw w3 T htb hst hwn hon hno
        · have hno := hno0
          have hwn0 : wn = 0 := by simpa using hwn
          have e : stL 1 tb i u v c LS sn LW wn (on : Int) true = [⟨#[115, 101, 108, 101, 99, 116]⟩, itB tb, ⟨#[111, 114, 100, 101, 114]⟩, clT (on : Int), ⟨#[100, 101, 115, 99]⟩] := by simp [stL, kwT, midL, whL, orL, hwn0, hno]
          rw [e]
          exact c_stI_S02 tb i u v c sa sn sc wa wn wc on LS LW w h1 h2 s2 hs s3 w2 hw w3 T htb hst hwn hon hno
  · obtain ⟨rfl, rfl⟩ := noB_eq hno'
    have hwn0 : wn = 0 := by simpa using hwn
    have e : stL 2 tb i u v c LS sn LW wn 0 false = [⟨#[105, 110, 115, 101, 114, 116]⟩, itB tb, rwS i u v 0, rwS i u v 1, rwS i u v 2] := by simp [stL, kwT, midL, whL, orL, hwn0, show noB 0 false = true from rfl]
    rw [e]
    exact c_stI_I tb i u v c sa sn sc wa wn wc LS LW w h1 h2 s2 hs s3 w2 hw w3 T htb hst hwn
  · obtain ⟨rfl, rfl⟩ := noB_eq hno'
    obtain ⟨cn, rfl⟩ : ∃ m : Nat, c = (m : Int) := ⟨c.toNat, by omega⟩
    have hcn : cn < 3 := by omega
    cases hwn : (wn == 0)
    · skip
      have hwn0 : ¬ wn = 0 := by simpa using hwn
      have e : stL 3 tb i u v (cn : Int) LS sn LW wn 0 false = [⟨#[117, 112, 100, 97, 116, 101]⟩, itB tb, ⟨#[115, 101, 116]⟩, clT (cn : Int), ⟨#[61]⟩, xtS LS sn, ⟨#[119, 104, 101, 114, 101]⟩, xtS LW wn] := by simp [stL, kwT, midL, whL, orL, hwn0, show noB 0 false = true from rfl]
      rw [e]
      exact c_stI_U1 tb i u v cn sa sn sc wa wn wc LS LW w h1 h2 s2 hs s3 w2 hw w3 T htb hst hwn hcn
    · skip
      have hwn0 : wn = 0 := by simpa using hwn
      have e : stL 3 tb i u v (cn : Int) LS sn LW wn 0 false = [⟨#[117, 112, 100, 97, 116, 101]⟩, itB tb, ⟨#[115, 101, 116]⟩, clT (cn : Int), ⟨#[61]⟩, xtS LS sn] := by simp [stL, kwT, midL, whL, orL, hwn0, show noB 0 false = true from rfl]
      rw [e]
      exact c_stI_U0 tb i u v cn sa sn sc wa wn wc LS LW w h1 h2 s2 hs s3 w2 hw w3 T htb hst hwn hcn
  · obtain ⟨rfl, rfl⟩ := noB_eq hno'
    cases hwn : (wn == 0)
    · skip
      have hwn0 : ¬ wn = 0 := by simpa using hwn
      have e : stL 4 tb i u v c LS sn LW wn 0 false = [⟨#[100, 101, 108, 101, 116, 101]⟩, itB tb, ⟨#[119, 104, 101, 114, 101]⟩, xtS LW wn] := by simp [stL, kwT, midL, whL, orL, hwn0, show noB 0 false = true from rfl]
      rw [e]
      exact c_stI_D1 tb i u v c sa sn sc wa wn wc LS LW w h1 h2 s2 hs s3 w2 hw w3 T htb hst hwn
    · skip
      have hwn0 : wn = 0 := by simpa using hwn
      have e : stL 4 tb i u v c LS sn LW wn 0 false = [⟨#[100, 101, 108, 101, 116, 101]⟩, itB tb] := by simp [stL, kwT, midL, whL, orL, hwn0, show noB 0 false = true from rfl]
      rw [e]
      exact c_stI_D0 tb i u v c sa sn sc wa wn wc LS LW w h1 h2 s2 hs s3 w2 hw w3 T htb hst hwn
theorem c_specTx (k tb i : Int) (u v : VV) (c : Int) (sa : Option Addr) (sn sc : Nat) (wa : Option Addr) (wn wc : Nat) (o : Int) (d : Bool) (LS LW : List EN) (w : World) (h1 : u.2.2.size ≤ maxLen) (h2 : v.2.2.size ≤ maxLen) (s2 : RdE w sa sn LS) (hs : sn ≤ 1048576) (s3 : ∀ x ∈ LS, x.t.size ≤ maxLen) (w2 : RdE w wa wn LW) (hw : wn ≤ 1048576) (w3 : ∀ x ∈ LW, x.t.size ≤ maxLen) (hst : stB k tb (rowZ i u v) (rowB i u v) c sn (okX LS sn) wn (okX LW wn) o d = true) :
    Calls Tryd.prog 40 #[.agg #[.int .i64 k, .int .i64 tb, .int .i64 i, .int .i64 u.1, .int .i64 u.2.1, .string u.2.2, .int .i64 v.1, .int .i64 v.2.1, .string v.2.2, .int .i64 c, .slice sa sn sc, .slice wa wn wc, .int .i64 o, .bool d]] w fun e w' => e = .returned (.string (joinS (stL k tb i u v c LS sn LW wn o d))) ∧ Below w.heap.size w w' := by
  obtain ⟨htb, ⟨rfl, ho⟩ | ⟨rfl, hwn, hno'⟩ | ⟨rfl, hcc, hno'⟩ | ⟨rfl, hno'⟩⟩ := st_parts hst
  · obtain ⟨on, rfl⟩ : ∃ m : Nat, o = (m : Int) := ⟨o.toNat, by omega⟩
    have hon : on < 3 := by omega
    cases hwn : (wn == 0)
    · skip
      by_cases hno' : noB (on : Int) d = true
      · obtain ⟨e0, rfl⟩ := noB_eq hno'
        obtain rfl : on = 0 := by omega
        rw [show ((0 : Nat) : Int) = 0 from rfl] at hst ⊢
        have hwn0 : ¬ wn = 0 := by simpa using hwn
        have e : stL 1 tb i u v c LS sn LW wn 0 false = [⟨#[115, 101, 108, 101, 99, 116]⟩, itB tb, ⟨#[119, 104, 101, 114, 101]⟩, xtS LW wn] := by simp [stL, kwT, midL, whL, orL, hwn0, show noB 0 false = true from rfl]
        rw [e]
        exact c_stS_S10 tb i u v c sa sn sc wa wn wc LS LW w h1 h2 s2 hs s3 w2 hw w3 htb hst hwn
      · have hno0 : noB (on : Int) d = false := by simpa using hno'
        cases d
        · have hno := hno0
          have hwn0 : ¬ wn = 0 := by simpa using hwn
          have e : stL 1 tb i u v c LS sn LW wn (on : Int) false = [⟨#[115, 101, 108, 101, 99, 116]⟩, itB tb, ⟨#[119, 104, 101, 114, 101]⟩, xtS LW wn, ⟨#[111, 114, 100, 101, 114]⟩, clT (on : Int)] := by simp [stL, kwT, midL, whL, orL, hwn0, hno]
          rw [e]
          exact c_stS_S11 tb i u v c sa sn sc wa wn wc on LS LW w h1 h2 s2 hs s3 w2 hw w3 htb hst hwn hon hno
        · have hno := hno0
          by_cases hn0 : (0 : Int) < (on : Int)
          · skip
            have hwn0 : ¬ wn = 0 := by simpa using hwn
            have e : stL 1 tb i u v c LS sn LW wn (on : Int) true = [⟨#[115, 101, 108, 101, 99, 116]⟩, itB tb, ⟨#[119, 104, 101, 114, 101]⟩, xtS LW wn, ⟨#[111, 114, 100, 101, 114]⟩, clT (on : Int), ⟨#[100, 101, 115, 99]⟩] := by simp [stL, kwT, midL, whL, orL, hwn0, hno]
            rw [e]
            exact c_stS_S12 tb i u v c sa sn sc wa wn wc on LS LW w h1 h2 s2 hs s3 w2 hw w3 htb hst hwn hon hno hn0
          · obtain rfl : on = 0 := by omega
            rw [show ((0 : Nat) : Int) = 0 from rfl] at hst ⊢
            have hwn0 : ¬ wn = 0 := by simpa using hwn
            have e : stL 1 tb i u v c LS sn LW wn 0 true = [⟨#[115, 101, 108, 101, 99, 116]⟩, itB tb, ⟨#[119, 104, 101, 114, 101]⟩, xtS LW wn, ⟨#[111, 114, 100, 101, 114]⟩, clT 0, ⟨#[100, 101, 115, 99]⟩] := by simp [stL, kwT, midL, whL, orL, hwn0, show noB 0 true = false from rfl]
            rw [e]
            exact c_stS_S13 tb i u v c sa sn sc wa wn wc LS LW w h1 h2 s2 hs s3 w2 hw w3 htb hst hwn
    · skip
      by_cases hno' : noB (on : Int) d = true
      · obtain ⟨e0, rfl⟩ := noB_eq hno'
        obtain rfl : on = 0 := by omega
        rw [show ((0 : Nat) : Int) = 0 from rfl] at hst ⊢
        have hwn0 : wn = 0 := by simpa using hwn
        have e : stL 1 tb i u v c LS sn LW wn 0 false = [⟨#[115, 101, 108, 101, 99, 116]⟩, itB tb] := by simp [stL, kwT, midL, whL, orL, hwn0, show noB 0 false = true from rfl]
        rw [e]
        exact c_stS_S00 tb i u v c sa sn sc wa wn wc LS LW w h1 h2 s2 hs s3 w2 hw w3 htb hst hwn
      · have hno0 : noB (on : Int) d = false := by simpa using hno'
        cases d
        · have hno := hno0
          have hwn0 : wn = 0 := by simpa using hwn
          have e : stL 1 tb i u v c LS sn LW wn (on : Int) false = [⟨#[115, 101, 108, 101, 99, 116]⟩, itB tb, ⟨#[111, 114, 100, 101, 114]⟩, clT (on : Int)] := by simp [stL, kwT, midL, whL, orL, hwn0, hno]
          rw [e]
          exact c_stS_S01 tb i u v c sa sn sc wa wn wc on LS LW w h1 h2 s2 hs s3 w2 hw w3 htb hst hwn hon hno
        · have hno := hno0
          by_cases hn0 : (0 : Int) < (on : Int)
          · skip
            have hwn0 : wn = 0 := by simpa using hwn
            have e : stL 1 tb i u v c LS sn LW wn (on : Int) true = [⟨#[115, 101, 108, 101, 99, 116]⟩, itB tb, ⟨#[111, 114, 100, 101, 114]⟩, clT (on : Int), ⟨#[100, 101, 115, 99]⟩] := by simp [stL, kwT, midL, whL, orL, hwn0, hno]
            rw [e]
            exact c_stS_S02 tb i u v c sa sn sc wa wn wc on LS LW w h1 h2 s2 hs s3 w2 hw w3 htb hst hwn hon hno hn0
          · obtain rfl : on = 0 := by omega
            rw [show ((0 : Nat) : Int) = 0 from rfl] at hst ⊢
            have hwn0 : wn = 0 := by simpa using hwn
            have e : stL 1 tb i u v c LS sn LW wn 0 true = [⟨#[115, 101, 108, 101, 99, 116]⟩, itB tb, ⟨#[111, 114, 100, 101, 114]⟩, clT 0, ⟨#[100, 101, 115, 99]⟩] := by simp [stL, kwT, midL, whL, orL, hwn0, show noB 0 true = false from rfl]
            rw [e]
            exact c_stS_S03 tb i u v c sa sn sc wa wn wc LS LW w h1 h2 s2 hs s3 w2 hw w3 htb hst hwn
  · obtain ⟨rfl, rfl⟩ := noB_eq hno'
    have hwn0 : wn = 0 := by simpa using hwn
    have e : stL 2 tb i u v c LS sn LW wn 0 false = [⟨#[105, 110, 115, 101, 114, 116]⟩, itB tb, rwS i u v 0, rwS i u v 1, rwS i u v 2] := by simp [stL, kwT, midL, whL, orL, hwn0, show noB 0 false = true from rfl]
    rw [e]
    exact c_stS_I tb i u v c sa sn sc wa wn wc LS LW w h1 h2 s2 hs s3 w2 hw w3 htb hst hwn
  · obtain ⟨rfl, rfl⟩ := noB_eq hno'
    obtain ⟨cn, rfl⟩ : ∃ m : Nat, c = (m : Int) := ⟨c.toNat, by omega⟩
    have hcn : cn < 3 := by omega
    cases hwn : (wn == 0)
    · skip
      have hwn0 : ¬ wn = 0 := by simpa using hwn
      have e : stL 3 tb i u v (cn : Int) LS sn LW wn 0 false = [⟨#[117, 112, 100, 97, 116, 101]⟩, itB tb, ⟨#[115, 101, 116]⟩, clT (cn : Int), ⟨#[61]⟩, xtS LS sn, ⟨#[119, 104, 101, 114, 101]⟩, xtS LW wn] := by simp [stL, kwT, midL, whL, orL, hwn0, show noB 0 false = true from rfl]
      rw [e]
      exact c_stS_U1 tb i u v cn sa sn sc wa wn wc LS LW w h1 h2 s2 hs s3 w2 hw w3 htb hst hwn hcn
    · skip
      have hwn0 : wn = 0 := by simpa using hwn
      have e : stL 3 tb i u v (cn : Int) LS sn LW wn 0 false = [⟨#[117, 112, 100, 97, 116, 101]⟩, itB tb, ⟨#[115, 101, 116]⟩, clT (cn : Int), ⟨#[61]⟩, xtS LS sn] := by simp [stL, kwT, midL, whL, orL, hwn0, show noB 0 false = true from rfl]
      rw [e]
      exact c_stS_U0 tb i u v cn sa sn sc wa wn wc LS LW w h1 h2 s2 hs s3 w2 hw w3 htb hst hwn hcn
  · obtain ⟨rfl, rfl⟩ := noB_eq hno'
    cases hwn : (wn == 0)
    · skip
      have hwn0 : ¬ wn = 0 := by simpa using hwn
      have e : stL 4 tb i u v c LS sn LW wn 0 false = [⟨#[100, 101, 108, 101, 116, 101]⟩, itB tb, ⟨#[119, 104, 101, 114, 101]⟩, xtS LW wn] := by simp [stL, kwT, midL, whL, orL, hwn0, show noB 0 false = true from rfl]
      rw [e]
      exact c_stS_D1 tb i u v c sa sn sc wa wn wc LS LW w h1 h2 s2 hs s3 w2 hw w3 htb hst hwn
    · skip
      have hwn0 : wn = 0 := by simpa using hwn
      have e : stL 4 tb i u v c LS sn LW wn 0 false = [⟨#[100, 101, 108, 101, 116, 101]⟩, itB tb] := by simp [stL, kwT, midL, whL, orL, hwn0, show noB 0 false = true from rfl]
      rw [e]
      exact c_stS_D0 tb i u v c sa sn sc wa wn wc LS LW w h1 h2 s2 hs s3 w2 hw w3 htb hst hwn
set_option maxRecDepth 100000 in
set_option maxHeartbeats 8000000 in
theorem c_implStT (k tb i : Int) (u v : VV) (c : Int) (sa : Option Addr) (sn sc : Nat) (wa : Option Addr) (wn wc : Nat) (o : Int) (d : Bool) (LS LW : List EN) (w : World) (h1 : u.2.2.size ≤ maxLen) (h2 : v.2.2.size ≤ maxLen) (s2 : RdE w sa sn LS) (hs : sn ≤ 1048576) (s3 : ∀ x ∈ LS, x.t.size ≤ maxLen) (w2 : RdE w wa wn LW) (hw : wn ≤ 1048576) (w3 : ∀ x ∈ LW, x.t.size ≤ maxLen) (T : TabX w) :
    Calls Tryd.prog 20 #[.agg #[.int .i64 k, .int .i64 tb, .int .i64 i, .int .i64 u.1, .int .i64 u.2.1, .string u.2.2, .int .i64 v.1, .int .i64 v.2.1, .string v.2.2, .int .i64 c, .slice sa sn sc, .slice wa wn wc, .int .i64 o, .bool d]] w fun e w' => e = .returned (.tuple #[.string (stS k tb i u v c LS sn LW wn o d), .int .i64 (stE k tb i u v c LS sn LW wn o d)]) ∧ Below w.heap.size w w' := by
  cases hst : stB k tb (rowZ i u v) (rowB i u v) c sn (okX LS sn) wn (okX LW wn) o d
  · have E : Hid (stS k tb i u v c LS sn LW wn o d = ⟨#[]⟩ ∧ stE k tb i u v c LS sn LW wn o d = 1) := st_no hst
    obtain ⟨V, hV⟩ : ∃ W, w.alloc (.cells #[.int .i64 k, .int .i64 tb, .int .i64 i, .int .i64 u.1, .int .i64 u.2.1, .string u.2.2, .int .i64 v.1, .int .i64 v.2.1, .string v.2.2, .int .i64 c, .slice sa sn sc, .slice wa wn wc, .int .i64 o, .bool d] 52) = W := ⟨_, rfl⟩
    have BV : Hid (Below w.heap.size w V) := by unfold Hid; rw [← hV]; exact (Below.refl _ _).alloc (Nat.le_refl _) _
    have XV : Hid (Box V w.heap.size 52 #[.int .i64 k, .int .i64 tb, .int .i64 i, .int .i64 u.1, .int .i64 u.2.1, .string u.2.2, .int .i64 v.1, .int .i64 v.2.1, .string v.2.2, .int .i64 c, .slice sa sn sc, .slice wa wn wc, .int .i64 o, .bool d]) := by unfold Hid; rw [← hV]; exact Box.new _ _ _
    have CK := c_implSt k tb i u v c sa sn sc wa wn wc o d LS LW V h1 h2 (s2.below BV.out) hs s3 (w2.below BV.out) hw w3
    rw [hst] at CK
    obtain ⟨x0, x1, x2, x3, x4, x5, x6, x7, x8, x9, x10, x11, x12, x13⟩ := box14 XV.out
    clear hst s2 s3 w2 w3 T
    go_enter Tryd.func20, Tryd.ntmps20
    go_wp2_with fail
    refine CK.mono ?_
    rintro e w1 ⟨rfl, hb⟩
    have B1 : Hid (Below w.heap.size w w1) := BV.out.trans (hb.mono BV.out.size)
    clear hb CK hV x0 x1 x2 x3 x4 x5 x6 x7 x8 x9 x10 x11 x12 x13
    go_wp2
    go_ret2
    exact ⟨by rw [E.out.1, E.out.2]; rfl, B1.out⟩
  · rw [(st_yes hst).1, (st_yes hst).2]
    exact c_implTx k tb i u v c sa sn sc wa wn wc o d LS LW w h1 h2 s2 hs s3 w2 hw w3 T hst
set_option maxRecDepth 100000 in
set_option maxHeartbeats 8000000 in
theorem c_specStT (k tb i : Int) (u v : VV) (c : Int) (sa : Option Addr) (sn sc : Nat) (wa : Option Addr) (wn wc : Nat) (o : Int) (d : Bool) (LS LW : List EN) (w : World) (h1 : u.2.2.size ≤ maxLen) (h2 : v.2.2.size ≤ maxLen) (s2 : RdE w sa sn LS) (hs : sn ≤ 1048576) (s3 : ∀ x ∈ LS, x.t.size ≤ maxLen) (w2 : RdE w wa wn LW) (hw : wn ≤ 1048576) (w3 : ∀ x ∈ LW, x.t.size ≤ maxLen) :
    Calls Tryd.prog 18 #[.agg #[.int .i64 k, .int .i64 tb, .int .i64 i, .int .i64 u.1, .int .i64 u.2.1, .string u.2.2, .int .i64 v.1, .int .i64 v.2.1, .string v.2.2, .int .i64 c, .slice sa sn sc, .slice wa wn wc, .int .i64 o, .bool d]] w fun e w' => e = .returned (.tuple #[.string (stS k tb i u v c LS sn LW wn o d), .int .i64 (stE k tb i u v c LS sn LW wn o d)]) ∧ Below w.heap.size w w' := by
  obtain ⟨V, hV⟩ : ∃ W, w.alloc (.cells #[.int .i64 k, .int .i64 tb, .int .i64 i, .int .i64 u.1, .int .i64 u.2.1, .string u.2.2, .int .i64 v.1, .int .i64 v.2.1, .string v.2.2, .int .i64 c, .slice sa sn sc, .slice wa wn wc, .int .i64 o, .bool d] 52) = W := ⟨_, rfl⟩
  have BV : Hid (Below w.heap.size w V) := by unfold Hid; rw [← hV]; exact (Below.refl _ _).alloc (Nat.le_refl _) _
  have XV : Hid (Box V w.heap.size 52 #[.int .i64 k, .int .i64 tb, .int .i64 i, .int .i64 u.1, .int .i64 u.2.1, .string u.2.2, .int .i64 v.1, .int .i64 v.2.1, .string v.2.2, .int .i64 c, .slice sa sn sc, .slice wa wn wc, .int .i64 o, .bool d]) := by unfold Hid; rw [← hV]; exact Box.new _ _ _
  have CK := c_specSt k tb i u v c sa sn sc wa wn wc o d LS LW V h1 h2 (s2.below BV.out) hs s3 (w2.below BV.out) hw w3
  obtain ⟨x0, x1, x2, x3, x4, x5, x6, x7, x8, x9, x10, x11, x12, x13⟩ := box14 XV.out
  cases hst : stB k tb (rowZ i u v) (rowB i u v) c sn (okX LS sn) wn (okX LW wn) o d
  · have E : Hid (stS k tb i u v c LS sn LW wn o d = ⟨#[]⟩ ∧ stE k tb i u v c LS sn LW wn o d = 1) := st_no hst
    rw [hst] at CK
    clear hst s2 s3 w2 w3
    go_enter Tryd.func18, Tryd.ntmps18
    go_wp2_with fail
    refine CK.mono ?_
    rintro e w1 ⟨rfl, hb⟩
    have B1 : Hid (Below w.heap.size w w1) := BV.out.trans (hb.mono BV.out.size)
    clear hb CK hV x0 x1 x2 x3 x4 x5 x6 x7 x8 x9 x10 x11 x12 x13
    go_wp2
    go_ret2
    exact ⟨by rw [E.out.1, E.out.2]; rfl, B1.out⟩
  · rw [(st_yes hst).1, (st_yes hst).2]
    rw [hst] at CK
    have CL : Hid (∀ W, Below V.heap.size V W → Calls Tryd.prog 40 #[.agg #[.int .i64 k, .int .i64 tb, .int .i64 i, .int .i64 u.1, .int .i64 u.2.1, .string u.2.2, .int .i64 v.1, .int .i64 v.2.1, .string v.2.2, .int .i64 c, .slice sa sn sc, .slice wa wn wc, .int .i64 o, .bool d]] W fun e w' => e = .returned (.string (joinS (stL k tb i u v c LS sn LW wn o d))) ∧ Below W.heap.size W w') := fun W hW => c_specTx k tb i u v c sa sn sc wa wn wc o d LS LW W h1 h2 ((s2.below BV.out).below hW) hs s3 ((w2.below BV.out).below hW) hw w3 hst
    obtain ⟨J, hJ⟩ : ∃ J, joinS (stL k tb i u v c LS sn LW wn o d) = J := ⟨_, rfl⟩
    rw [hJ] at CL ⊢
    clear hst s2 s3 w2 w3 hJ
    go_enter Tryd.func18, Tryd.ntmps18
    go_wp2_with fail
    refine CK.mono ?_
    rintro e w1 ⟨rfl, hb⟩
    have L1 : Hid (Below V.heap.size V w1) := hb
    clear hb CK hV x0 x1 x2 x3 x4 x5 x6 x7 x8 x9 x10 x11 x12 x13
    obtain ⟨x0, x1, x2, x3, x4, x5, x6, x7, x8, x9, x10, x11, x12, x13⟩ := box14 (XV.out.belowS L1.out)
    have D := CL.out w1 L1.out
    go_wp2_with fail
    refine D.mono ?_
    rintro e w2 ⟨rfl, hb⟩
    have B1 : Hid (Below w.heap.size w w2) := BV.out.trans ((L1.out.trans (hb.mono L1.out.size)).mono BV.out.size)
    clear hb D x0 x1 x2 x3 x4 x5 x6 x7 x8 x9 x10 x11 x12 x13
    go_wp2
    go_ret2
    exact ⟨rfl, B1.out⟩

end Go.Proofs.YtknjglgellhchaaDoor
