/- AddrSorts: whatever addresses are sorted. -/
import Derived.Test.YthnilfneaefnhaaAdl
namespace Go.Proofs.Ythnilfneaefnhaa
open Go.ChangeShapes Go.WideShapes Go.ChangeAt Go.RowKit Go.Shelf

set_option maxRecDepth 100000 in
/-- A slice of addresses that came in. -/
theorem addrs_came {H : Type} {enc : TypeId × Value → H} {W : World} {base : Nat} {v : Value} {d : DataW H} {p : List MemPlace}
    (hval : Value.okWide Try.prog W .any base 66 v) (h : DataW.Trod enc Try.prog W 0 (fun _ => true) true 66 v d p) : ∃ l : List Int, Az W v l := by
  obtain ⟨a0, len0, cap0, rfl⟩ := okWide_slice Try.underlying66 hval
  obtain ⟨fuel, hf⟩ := h
  rcases open_ints Try.underlying66 Try.underlying56 (by kernel_rfl) hf with ⟨hcs, _⟩ | ⟨x, l, c, zs, hcs, _, hl, hm, hz, _, hcell, _⟩
  · simp [Value.cells] at hcs
    obtain ⟨rfl, rfl, rfl⟩ := hcs
    exact ⟨[], Rs.nil _ 1⟩
  · simp [Value.cells] at hcs
    obtain ⟨rfl, rfl, rfl⟩ := hcs
    simp only [if_true] at hz
    have hlen : (zs.take len0).length = len0 := by simp; omega
    refine ⟨zs.take len0, by simp, _, cap0, by rw [hlen], by rw [hlen]; exact hl, hm, fun hp => ?_⟩
    rw [hlen] at hp
    obtain ⟨b, o, sp⟩ := x
    have hc0 := hcell 0 (by omega)
    obtain rfl : sp = none := by simpa [Addr.add] using World.cell?_spot hc0
    refine ⟨b, o, rfl, fun i u hu => ?_⟩
    have hi : i < len0 := by
      have := (List.getElem?_eq_some_iff.1 hu).1
      rw [List.length_map, hlen] at this
      exact this
    have hci := hcell i (by omega)
    rw [add_plain] at hci
    rw [hci, ← hu]
    have hzi : i < zs.length := by omega
    simp [az, hi, List.getD, List.getElem?_eq_getElem hzi]
set_option maxRecDepth 100000 in
theorem rise_len : ∀ (r l : List Int), r.Pairwise (· < ·) → (∀ x ∈ r, x ∈ l) → r.length ≤ l.length
  | [], _, _, _ => Nat.zero_le _
  | a :: r, l, hp, h => by
    obtain ⟨h1, h2⟩ := List.pairwise_cons.1 hp
    have ha := h a List.mem_cons_self
    have := rise_len r (l.erase a) h2 fun x hx => (List.mem_erase_of_ne (by have := h1 x hx; omega)).2 (h x (List.mem_cons_of_mem _ hx))
    rw [List.length_erase_of_mem ha] at this
    have hpos := List.length_pos_of_mem ha
    rw [List.length_cons]
    omega
set_option maxRecDepth 100000 in
theorem RetS_len {l r : List Int} (h : SR l r) : r.length ≤ l.length := rise_len r l h.1 fun x hx => (h.2 x).1 hx
set_option maxRecDepth 100000 in
theorem own_none (w : World) (b g : Nat) (t : TypeId) (hg : g = w.heap.size) (hb : b ≤ g) : (w.alloc (.cells #[] t)).ownsRow b t 1 (.slice (some ⟨g, 0, none⟩) 0 0) 0 [] :=
  hg ▸ World.ownsRow_made w #[] 0 (hg ▸ hb) (by simp [maxLen]) (by simp)

set_option maxRecDepth 100000 in
set_option maxHeartbeats 4000000 in
theorem sorts_any (v : Value) (l : List Int) (w : World) (hv : Az w v l) : Calls Try.prog 11 #[v] w (RetT w) := by
  have HV := Lib.hid hv
  obtain ⟨_, A0, c0, rfl, _, hm0, _⟩ := hv
  unfold maxLen at hm0
  go_enter Try.func11, Try.ntmps11
  go_wp2_with fail
  refine (adrWakes_any _).mono ?_
  rintro e w1 ⟨rfl, he⟩
  have HE := Lib.hid he
  clear he
  by_cases hlong : 200 < l.length
  · have hd : decide ((200 : Int) < (l.length : Int)) = true := by simp; omega
    go_wp2_with fail
    go_ret
    exact ⟨rfl, HE.out⟩
  · have hd : decide ((200 : Int) < (l.length : Int)) = false := by simp; omega
    have HL := Lib.hid (show l.length ≤ 200 by omega)
    have HRS := Lib.hid (fun W (h : Ext w W) => (show Rs W 1 (.slice A0 l.length c0) l.length (l.map az) from HV.out.ext h))
    clear hlong
    go_wp2_with (refine wpList_append_row rfl (.tmp 10) (.tmp 11) 66 rfl w1.heap.size 56 Try.underlying66 (.int .u64 0) 1 8 adinfo rfl (by decide) _ 0 [] rfl (own_none _ _ _ _ rfl (Nat.le_refl _)) (.slice A0 l.length c0) l.length (l.map az) rfl (HRS.out _ (HE.out.alloc _)) (az_one _) (by have := HL.out; omega) (by decide) (by simp) ?_; intro v3 w3 ho3 hg3 _; have HE3 := Lib.hid (HE.out.trans (Ext.appendR ((Ext.refl w1).alloc _) (own_none _ _ _ _ rfl (Nat.le_refl _)) hg3)); have H3 : Hid (Az w3 v3 l) := Lib.hid (by have := Rs.of_own ho3; rwa [Nat.zero_add, List.nil_append] at this); clear ho3 hg3)
    refine (sorted_any _ l _ (HV.out.ext HE3.out) (by have := HL.out; omega)).mono ?_
    rintro e w4 ⟨v4, r, rfl, hsr, ho, he⟩
    have H4 := Lib.hid (AzO.az ho)
    have H3 := Lib.hid (H3.out.ext he)
    have HE4 := Lib.hid (HE3.out.trans he)
    clear ho he HE3 HE
    go_wp2_with fail
    refine (refSorted_any v3 l _ H3.out (by have := HL.out; omega)).mono ?_
    rintro e w5 ⟨v5, s, rfl, hss, ho, he⟩
    obtain rfl := hsr.unique hss
    have H5 := Lib.hid (AzO.az ho)
    have H3 := Lib.hid (H3.out.ext he)
    have H4 := Lib.hid (H4.out.ext he)
    have HE5 := Lib.hid (HE4.out.trans he)
    have HR := Lib.hid (show r.length ≤ 1000000 from Nat.le_trans (RetS_len hsr) (by have := HL.out; omega))
    clear ho he HE4 hss hsr
    go_wp2_with fail
    refine (sameAddrs_any v4 v5 r _ H4.out H5.out HR.out).mono ?_
    rintro e w6 ⟨rfl, he⟩
    have H3 := Lib.hid (H3.out.ext he)
    have HE6 := Lib.hid (HE5.out.trans he)
    clear he HE5 H4 H5
    go_wp2_with fail
    refine (sameAddrs_any _ v3 l _ (HV.out.ext HE6.out) H3.out (by have := HL.out; omega)).mono ?_
    rintro e w7 ⟨rfl, he⟩
    have HE7 := Lib.hid (HE6.out.trans he)
    clear he HE6 H3
    go_wp2_with fail
    go_ret
    exact ⟨rfl, HE7.out⟩

set_option maxRecDepth 100000 in
theorem sorts_told (W : World) (args : Array Value) (h : Told Try.f11 W args) : Calls Try.prog 11 args W (RetT W) := by
  obtain ⟨H, enc, base, ds, p, hval, hA⟩ := h
  rw [Try.params11] at hA hval
  obtain ⟨v0, d0, rfl, rfl, h0⟩ := trodAll_one hA
  obtain ⟨l, hl⟩ := addrs_came (hval 0 _ v0 rfl rfl) h0
  exact sorts_any v0 l W hl

set_option maxRecDepth 100000 in
theorem sorts_spec (H : Type) : ∀ ds : List (DataW H), ds.length = Try.f11.params.toList.length → Rows.addrSortsSpec.fn H ds = { results := [.lit (.bool true)], args := ds }
  | [_], _ => rfl
  | [], h | _ :: _ :: _, h => by rw [Try.params11] at h; simp at h

set_option maxRecDepth 100000 in
theorem addrSorts_holds : Rows.AddrSortsSaid :=
  OpenClaim.holds_of_wide 11 Try.f11 rfl rfl rfl rfl rfl rfl rfl ⟨rfl, rfl, rfl, rfl, rfl⟩ rfl rfl rfl rfl rfl (by kernel_rfl) Try.func11 (by kernel_rfl)
    (of_decide_eq_true (by kernel_rfl)) (by unfold Func.isWrapper; first | (rw [if_pos (by decide +kernel)]; kernel_rfl) | (rw [if_neg (by decide +kernel)]; exact ⟨rfl, rfl⟩))
    (fun os started H enc _ => law_lifted started (by kernel_rfl) Try.func11 rfl rfl (sorts_spec H) (of_decide_eq_true (by kernel_rfl))
      (ChangeSpec.witness6 (enc := enc) (C := Try.checked) false ⟨#[], #[.slice none 0 0], []⟩ 8 (by kernel_rfl) (by kernel_rfl) (by kernel_rfl) (by kernel_rfl)) sorts_told)
end Go.Proofs.Ythnilfneaefnhaa
