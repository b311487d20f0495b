/- For every list of ticks and every distance the program's KeepApart answers as the model does, leaves its argument as it was and answers so again when the first answer was written over, and the law returns true. No condition. -/
import Derived.Test.YtlimfpdibohioaaC08n
import Derived.Test.YtlimfpdibohioaaC08o
import Derived.Test.YtlimfpdibohioaaDl
import Derived.Test.YtlimfpdibohioaaFr
import Derived.Test.YtlimfpdibohioaaRows
import Derived.WalkKit
import Derived.ProofKit
import Derived.OpenShut
namespace Go.Proofs.Ytlimfpdibohioaa.fnExactKeepApart
open Go.ChangeShapes Go.WideShapes Go.ChangeAt Go.RowKit
set_option linter.unusedVariables false
set_option linter.unusedSimpArgs false

theorem own : ownKnob Try.prog.godebug = none := by kernel_rfl

theorem kaL_len (zs : List P3) (d : Int) : (kaL zs d).length ≤ 150 := by
  rcases ka_cases zs d with ⟨-, -, h⟩ | ⟨-, -, -, h⟩ | ⟨h0, -, -, -, h⟩
  · rw [h]; simp
  · rw [h]; simp
  · rw [h, List.length_map]
    have := lsS_len zs.length (kpS zs zs.length (nrD zs d) (byH zs zs.length))
    obtain ⟨h150, -⟩ := tkE_zero h0
    omega


set_option maxHeartbeats 4000000 in
set_option maxRecDepth 100000 in
theorem walk (w : World) (A0 : Option Addr) (n0 c0 : Nat) (zs0 : List P3) (hn0 : zs0.length = n0) (hR0 : Reads w w.heap.size A0 (cells3 zs0)) (hW0 : ∀ z ∈ zs0, (Lit.int .i64 z.1).wf = true ∧ (Lit.int .i64 z.2.1).wf = true ∧ (Lit.int .i64 z.2.2).wf = true) (hM0 : n0 ≤ maxLen) (a1 : Int) (wf1 : (Lit.int .i64 a1).wf = true) :
    Calls Try.prog 6 #[.slice A0 n0 c0, .int .i64 a1] w (LawDone w) := by
  unfold maxLen at hM0
  by_cases hb : n0 ≤ 1048576
  rotate_left
  · go_enter Try.func6, Try.ntmps6
    go_wp2_with fail
    refine (szTicks_no A0 n0 c0 _ hb (by omega)).mono ?_
    rintro e w' ⟨rfl, rfl⟩
    go_wp2_with fail
    ((try simp only [Exit.inBlock, Exit.then]); refine bodyPost_ret (v := .bool true) (by simp [results, Try.results6, go_sem]) rfl ?_)
    exact ⟨rfl, Below.refl _ _⟩
  have HN := Lib.hid hn0
  have HS := Lib.hid (fun (b : Nat) (W : World) (h : Row W b 51 (cells3 zs0)) => ka_spec (some ⟨b, 0, none⟩) n0 n0 zs0 a1 W HN.out (by omega) h.reads)
  have HI := Lib.hid (fun (b : Nat) (W : World) (h : Row W b 51 (cells3 zs0)) => ka_impl (some ⟨b, 0, none⟩) n0 n0 zs0 a1 W HN.out (by omega) h.reads)
  have hlen := kaL_len zs0 a1
  clear hn0 hW0
  generalize kaL zs0 a1 = L at *
  generalize kaE zs0 a1 = cd at *
  go_enter Try.func6, Try.ntmps6
  go_wp2_with (go_at_call 36; refine (szTicks_ok A0 n0 c0 _ hb).mono ?_; rintro e w' ⟨rfl, rfl⟩)
  refine (toTicks_any A0 n0 c0 zs0 w HN.out hb hR0).mono ?_
  rintro e w1 ⟨b1, rfl, hb1, hr1, hl1⟩
  rw [HN.out]
  go_wp2_with fail
  refine (HS.out b1 w1 hr1).mono ?_
  rintro e w2 ⟨⟨u, rfl, hu⟩, hd2⟩
  have hW2 := hl1.trans (hd2.mono hl1.size)
  have hub := fun g e => (World.ownsRow.lt hu g e).2
  go_wp2_with fail
  refine (toTicks_any A0 n0 c0 zs0 w2 HN.out hb (hR0.below hW2)).mono ?_
  rintro e w3 ⟨b3, rfl, hb3, hr3, hl3⟩
  have hb3' := hr3.lt
  replace hu := Lst.below hu hl3
  have hW3 := hW2.trans (hl3.mono hW2.size)
  rw [HN.out]
  go_wp2_with fail
  refine (HI.out b3 w3 hr3).mono ?_
  rintro e w4 ⟨⟨v, rfl, hv⟩, hd4⟩
  replace hu := Lst.below hu hd4
  have hr4 := hr3.below hd4 hb3'
  have hW4 := hW3.trans (hd4.mono hW3.size)
  go_wp2_with fail
  refine (eqLst_any v u L _ _ w4 hv hu (by omega)).mono ?_
  rintro e w5 ⟨rfl, hg5⟩
  replace hu := Lst.below hu hg5.below
  replace hv := Lst.below hv hg5.below
  have hr5 := hr4.gr hg5
  have hW5 := hW4.trans (hg5.below.mono hW4.size)
  have hZ5 := hd4.trans (hg5.below.mono hd4.size)
  go_wp2_with fail
  refine (toTicks_any A0 n0 c0 zs0 w5 HN.out hb (hR0.below hW5)).mono ?_
  rintro e w6 ⟨b6, rfl, hb6, hr6, hl6⟩
  rw [HN.out]
  replace hu := Lst.below hu hl6
  replace hv := Lst.below hv hl6
  have hr6' := hr5.below hl6 hr5.lt
  have hW6 := hW5.trans (hl6.mono hW5.size)
  have hZ6 := hZ5.trans (hl6.mono hZ5.size)
  go_wp2_with fail
  refine (eqTicks_same _ _ n0 n0 n0 zs0 w6 HN.out (by omega) hr6'.reads hr6.reads).mono ?_
  rintro e w7 ⟨rfl, hg7⟩
  replace hu := Lst.below hu hg7.below
  replace hv := Lst.below hv hg7.below
  have hr7 := hr6'.gr hg7
  have hW7 := hW6.trans (hg7.below.mono hW6.size)
  have hZ7 := hZ6.trans (hg7.below.mono hZ6.size)
  go_wp2_with fail
  refine (markTicks_any b3 n0 n0 (cells3 zs0) w7 (by rw [cells3_len, HN.out]) (by omega) hr7).mono ?_
  rintro e w8 ⟨rfl, hd8⟩
  have hs3 := hl3.size
  have hvb := fun g e => (World.ownsRow.lt hv g e).1
  replace hu := Lst.keep hu (fun g e hg => hd8.block g hg (by have := hub g e; omega))
  replace hv := Lst.keep hv (fun g e hg => hd8.block g hg (by have := hvb g e; omega))
  have hW8 := hW7.trans (hd8.below (show w.heap.size ≤ b3 by have := hW2.size; omega) hW7.size)
  have hZ8 := hZ7.size
  have hs8 := hd8.size
  go_wp2_with fail
  refine (eqLst_any v u L _ _ w8 hv hu (by omega)).mono ?_
  rintro e w9 ⟨rfl, hg9⟩
  replace hu := Lst.below hu hg9.below
  replace hv := Lst.below hv hg9.below
  have hW9 := hW8.trans (hg9.below.mono hW8.size)
  have hs9 := hg9.below.size
  go_wp2_with fail
  refine (markLst_any v L w3.heap.size w9 hv (by omega) (by omega)).mono ?_
  rintro e wa ⟨rfl, hva, hba⟩
  replace hu := Lst.keep hu (fun g e hg => hba.block g (by have := hub g e; omega))
  have hWa := hW9.trans (hba.mono (by have := hW3.size; omega))
  go_wp2_with fail
  refine (heldLst_any v L.length _ wa hva (by omega)).mono ?_
  rintro e wb ⟨rfl, rfl⟩
  go_wp2_with fail
  refine (toTicks_any A0 n0 c0 zs0 wa HN.out hb (hR0.below hWa)).mono ?_
  rintro e wc ⟨bc, rfl, hbc, hrc, hlc⟩
  rw [HN.out]
  replace hu := Lst.below hu hlc
  replace hva := Lst.below hva hlc
  have hWc := hWa.trans (hlc.mono hWa.size)
  go_wp2_with fail
  refine (HI.out bc wc hrc).mono ?_
  rintro e wd ⟨⟨v2, rfl, hv2⟩, hdd⟩
  replace hu := Lst.below hu hdd
  replace hva := Lst.below hva hdd
  have hWd := hWc.trans (hdd.mono hWc.size)
  go_wp2_with fail
  refine (eqLst_any v2 u L _ _ wd hv2 hu (by omega)).mono ?_
  rintro e we ⟨rfl, hge⟩
  replace hva := Lst.below hva hge.below
  have hWe := hWd.trans (hge.below.mono hWd.size)
  go_wp2_with fail
  refine (heldLst_any v L.length _ we hva (by omega)).mono ?_
  rintro e wf ⟨rfl, rfl⟩
  go_wp2_with fail
  go_ret
  exact ⟨rfl, hWe⟩

set_option maxRecDepth 100000 in
theorem lifted (os : Os) (started : os.Started) (H : Type) (enc : TypeId × Value → H) :
    ReturnsInHanded {} Try.checked os 6 .any (Rows.fnExactKeepApartSpec.pre6 enc Try.prog Try.f6 Rows.fnExactKeepApartRow.domain false) (Rows.fnExactKeepApartSpec.post enc Try.prog Try.f6 false true false false) := by
  refine returnsInHanded_of_change (C := Try.checked) own started (by kernel_rfl) Try.func6
    (ChangeSpec.witness6 (enc := enc) (C := Try.checked) false ⟨#[], #[.slice none 0 0, .int .i64 0], []⟩ 8 (by kernel_rfl) (by kernel_rfl) (by kernel_rfl) (by kernel_rfl)) ?_
  intro W base args ds gs before hval0 hW hcnd _
  have hval : ∀ (j : Nat) t v, Try.f6.params[j]? = some t → args[j]? = some v → Value.okWide Try.prog W .any base t v := hval0
  have hW' := hW
  obtain ⟨p, q, hA0, hV, hpq, hfz, hnd⟩ := hW
  have hA : DataW.TrodAll enc Try.prog W 0 (fun _ => true) true Try.f6.params.toList args.toList ds p := hA0
  have hT := hA
  obtain ⟨rfl, rfl⟩ := trodVars_none hV
  rw [Try.params6] at hA hval
  obtain ⟨v0, vs0, d0, ds0, p0, q0, hargs, rfl, rfl, h0, r0⟩ := trodAll_cons hA
  obtain ⟨v1, vs1, d1, ds1, p1, q1, rfl, rfl, rfl, h1, r1⟩ := trodAll_cons r0
  obtain ⟨rfl, rfl, rfl⟩ := trodAll_nil r1
  obtain rfl : args = #[v0, v1] := by cases args; simp_all
  obtain ⟨A0, n0, c0, zs0, rfl, hn0, hR0, hW0, hM0⟩ := open_p3 Try.underlying54 Try.underlying86 (by kernel_rfl) rfl rfl rfl Try.underlying2 Try.underlying2 Try.underlying2 (by kernel_rfl) (by kernel_rfl) (by kernel_rfl) (hval 0 54 v0 rfl rfl) h0
  obtain ⟨a1, rfl, -, -, wf1⟩ := open_int Try.underlying2 (hval 1 2 v1 rfl rfl) h1
  clear hA0 hval0
  refine (walk W A0 n0 c0 zs0 hn0 hR0 hW0 hM0 a1 wf1).mono fun e W' ⟨he, hb⟩ => ?_
  subst he
  exact ⟨_, rfl, law_post laidOut hW' hT hpq (by kernel_rfl) (fun _ _ => rfl) rfl rfl rfl Try.underlying4 hb⟩

theorem over : Rows.fnExactKeepApartRow.holds Try.pinned (OpenSpec.ofChange Rows.fnExactKeepApartSpec) :=
  OpenClaim.holds_of_wide 6 Try.f6 rfl rfl rfl rfl rfl rfl rfl ⟨rfl, rfl, rfl, rfl, rfl⟩ rfl rfl rfl rfl rfl (by kernel_rfl) Try.func6 (by kernel_rfl)
    (of_decide_eq_true (by kernel_rfl)) (by unfold Func.isWrapper; first | (rw [if_pos (by decide +kernel)]; kernel_rfl) | (rw [if_neg (by decide +kernel)]; exact ⟨rfl, rfl⟩))
    (fun os started H enc _ => lifted os started H enc)

theorem proved : Rows.FnExactKeepApartSaid :=
  over
end Go.Proofs.Ytlimfpdibohioaa.fnExactKeepApart
