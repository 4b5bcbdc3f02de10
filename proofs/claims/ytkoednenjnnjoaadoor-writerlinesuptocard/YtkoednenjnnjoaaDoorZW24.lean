import Derived.Test.YtkoednenjnnjoaaDoorZW23
import Derived.Laws.EntriesVeiled
namespace Go.Proofs.YtkoednenjnnjoaaDoor
open Go.RowKit
set_option linter.unusedVariables false
set_option linter.unusedSimpArgs false

set_option maxRecDepth 100000 in
set_option maxHeartbeats 3200000 in
theorem w_WriterLines (h : Nat) (io : Option Addr) (N icap : Nat) (ts : List VT) (w : World) (hts : ts.length = N) (hI : IIn w h io ts) (hN : N ≤ icap) (hN2 : N ≤ 140737488355328) (hsh : ∀ t ∈ ts, ShV h t) (hwd : WordsAt w) :
    Calls Tryd.prog 5 #[.slice io N icap] w fun e w' => e = .returned (.bool true) ∧ Below w.heap.size w w' := by
  have HLv := Hid.mk (w_lives6 w hwd)
  have HFt : Hid (∀ u, Below w.heap.size w u → Calls Tryd.prog 15 #[.slice io N icap] u fun e w' => e = .returned (.bool (decide (sumL (ts.map (szN h)) ≤ 20000))) ∧ Hid (Below w.heap.size w w')) := fun u hu => (w_Fit h io N icap ts u hts (hI.keep hu) hN hN2).mono fun e w' ⟨he, hb⟩ => ⟨he, hu.trans (hb.mono hu.size)⟩
  cases hd : decide (sumL (ts.map (szN h)) ≤ 20000) with
  | false =>
    rw [hd] at HFt
    clear hd hI hsh hwd hts
    go_enter Tryd.func5, Tryd.ntmps5
    go_wp2_with fail
    refine HLv.out.mono ?_
    rintro e w1 ⟨rfl, hb⟩
    have HB := Hid.mk hb
    clear hb
    go_wp2_with fail
    refine (HFt.out _ HB.out).mono ?_
    rintro e w2 ⟨rfl, HB2⟩
    go_wp2_with fail
    go_ret
    exact ⟨rfl, HB2.out⟩
  | true =>
    have hsz : sumL (ts.map (szN h)) ≤ 20000 := of_decide_eq_true hd
    rw [hd] at HFt
    obtain ⟨A, hA⟩ : ∃ A : ByteArray, A = ⟨(if ts.all (formN h) = true then lnsW h ts N else []).toArray⟩ := ⟨_, rfl⟩
    obtain ⟨er, her⟩ : ∃ er : Int, er = (if ts.all (formN h) = true then 0 else 1) := ⟨_, rfl⟩
    have HPr : Hid (∀ u, Below w.heap.size w u → Calls Tryd.prog 16 #[.slice io N icap] u fun e w' => e = .returned (.tuple #[.string A, .int .i64 er]) ∧ Hid (Below w.heap.size w w')) := fun u hu => (w_Lines h io N icap ts u hts (hI.keep hu) hN hN2 hsh hsz (hwd.keep hu)).mono fun e w' ⟨he, hb⟩ => ⟨by rw [he, hA, her], hu.trans (hb.mono hu.size)⟩
    have HRf : Hid (∀ u, Below w.heap.size w u → Calls Tryd.prog 17 #[.slice io N icap] u fun e w' => e = .returned (.tuple #[.string A, .int .i64 er]) ∧ Hid (Below w.heap.size w w')) := fun u hu => (w_rLines h io N icap ts u hts (hI.keep hu) hN hN2 hsh hsz).mono fun e w' ⟨he, hb⟩ => ⟨by rw [he, hA, her], hu.trans (hb.mono hu.size)⟩
    by_cases hN0 : N = 0
    · have hA0 : A = ⟨#[]⟩ := by
        rw [hA]
        by_cases hf : ts.all (formN h) = true
        · rw [if_pos hf, hN0]; rfl
        · rw [if_neg hf]
      rw [hA0] at HPr HRf
      have hn1 : ¬ (0 : Int) < (N : Int) := by omega
      have HN0 := Hid.mk hN0
      clear hd hI hsh hwd hts hA her hA0 hsz hN0
      go_enter Tryd.func5, Tryd.ntmps5
      go_wp2_with fail
      refine HLv.out.mono ?_
      rintro e w1 ⟨rfl, hb⟩
      have HB := Hid.mk hb
      clear hb
      go_wp2_with fail
      refine (HFt.out _ HB.out).mono ?_
      rintro e w2 ⟨rfl, HB2⟩
      go_wp2_with fail
      refine (HPr.out _ HB2.out).mono ?_
      rintro e w3 ⟨rfl, HB3⟩
      go_wp2_with fail
      refine (HRf.out _ HB3.out).mono ?_
      rintro e w4 ⟨rfl, HB4⟩
      go_wp2_with fail
      go_ret
      exact ⟨by first | rfl | simp, HB4.out⟩
    · have hn1 : (0 : Int) < (N : Int) := by omega
      clear hd hI hsh hwd hts hA her hsz hN0
      go_enter Tryd.func5, Tryd.ntmps5
      go_wp2_with fail
      refine HLv.out.mono ?_
      rintro e w1 ⟨rfl, hb⟩
      have HB := Hid.mk hb
      clear hb
      go_wp2_with fail
      refine (HFt.out _ HB.out).mono ?_
      rintro e w2 ⟨rfl, HB2⟩
      go_wp2_with fail
      refine (HPr.out _ HB2.out).mono ?_
      rintro e w3 ⟨rfl, HB3⟩
      go_wp2_with fail
      refine (HRf.out _ HB3.out).mono ?_
      rintro e w4 ⟨rfl, HB4⟩
      go_wp2_with fail
      go_ret
      exact ⟨by first | rfl | simp, HB4.out⟩
end Go.Proofs.YtkoednenjnnjoaaDoor
