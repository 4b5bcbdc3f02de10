import Derived.Test.YtgnaeddpdomgkabDoorTen29
import Derived.Test.YtgnaeddpdomgkabDoorTen27
namespace Go.Proofs.YtgnaeddpdomgkabDoor
open Go.RowKit
set_option linter.unusedVariables false
set_option linter.unusedSimpArgs false

theorem formed_digs {l : List UInt8} (h : Pl.formed l = true) : (Pl.body l).all Pl.isDig = true := by
  unfold Pl.formed at h
  rw [Bool.or_eq_true] at h
  rcases h with h | h
  · have : l = [48] := by simpa using h
    subst this; decide
  · cases e : Pl.body l with
    | nil => rfl
    | cons c t => rw [e] at h; simp only [Pl.plainB, Bool.and_eq_true] at h; exact h.2

theorem dvl_pow {s : ByteArray} (hf : Pl.formed s.data.toList = true) : Pl.dvl (Pl.body s.data.toList) < 1000000000 ^ s.size :=
  Nat.lt_of_lt_of_le (Pl.dvl_lt _ (formed_digs hf)) (Nat.le_trans (pow_le9 _) (Nat.pow_le_pow_right (by decide) (body_size s)))

set_option maxRecDepth 100000 in
set_option maxHeartbeats 1600000 in
theorem w_one_unsigned (a : ByteArray) (w : World) (ha : a.size ≤ 4294967296) (fa : Pl.formed a.data.toList = true) (htab : Tab w) :
    Calls Tryd.prog 32 #[.string a, .func (.func 33) #[] #[]] w fun e w' => Ans w w' e (Pl.dvl (Pl.body a.data.toList) : Int) := by
  have HRa := Hid.mk (fun (u : World) => w_treadV a u ha fa)
  have HT := Hid.mk htab
  have HX := Hid.mk (dvl_pow fa)
  generalize Pl.neg a.data.toList = b1 at *
  generalize Pl.dvl (Pl.body a.data.toList) = x1 at *
  clear htab fa
  go_enter Tryd.func32, Tryd.ntmps32
  go_wp2_with fail
  refine (HRa.out _).mono ?_
  rintro e w1 ⟨ao, an, ac, rfl, HN1, hb1⟩
  have HB1 := Hid.mk hb1
  clear hb1
  go_wp2_with fail
  refine (w_unsigned b1 _ x1 _ (HN1.out.keep (below1 w1 _))).mono ?_
  rintro e w3 ⟨rfl, hb3⟩
  have HN3 := Hid.mk ((HN1.out.keep (below1 w1 _)).keep hb3)
  have HB3 := Hid.mk (below_more (below_more HB1.out (below1 w1 _)) hb3)
  clear hb3
  go_wp2_with fail
  refine (w_textV false _ x1 a.size w3 HN3.out HX.out (by omega) (HT.out.keep HB3.out)).mono ?_
  rintro e w4 ⟨r, rfl, HR, hb4⟩
  have HB4 := Hid.mk (below_more HB3.out hb4)
  clear hb4
  go_wp2_with fail
  go_ret2
  exact ⟨r, rfl, HR.out.1, by rw [HR.out.2]; rfl, HB4.out⟩

end Go.Proofs.YtgnaeddpdomgkabDoor
