/- Package ledger: a row put in wherever; the ledger of a teller. -/
import Derived.Test.YtepggbhibpjkpaaLhf
namespace Go.Proofs.Ytepggbhibpjkpaa
open Go.ChangeShapes Go.WideShapes Go.ChangeAt Go.RowKit Go.Shelf

set_option maxRecDepth 100000 in
theorem hdf_single (p : Hd) : hdf [p] = (hdc p).toList := by simp [hdf]
set_option maxRecDepth 100000 in
theorem rs_hd1 {W : World} {g : Nat} {p : Hd} (h : Cs W g 97 (hdc p)) : Rs W 11 (.slice (some ⟨g, 0, none⟩) 1 1) 1 (hdc p).toList := ⟨rfl, _, _, rfl, Nat.le_refl _, by unfold maxLen; omega, fun _ => ⟨g, 0, rfl, fun i z hz => by
  rw [Nat.zero_add]
  exact Cs.cell h i z (by rwa [Array.getElem?_toList] at hz)⟩⟩
set_option maxRecDepth 100000 in
theorem own_addrH {W : World} {lo s n c m : Nat} {e : TypeId} {A : Option Addr} {cs : List Value} (h : W.ownsRow lo e s (.slice A n c) m cs) (hn : 0 < m) : ∃ b, A = some ⟨b, 0, none⟩ := by
  rcases h.2 with ⟨_, h0⟩ | ⟨b, cap, cur, e, _⟩
  · omega
  · injection e with e
    exact ⟨b, e⟩
set_option maxRecDepth 100000 in
theorem hdf_app2 (l m : List Hd) : hdf (l ++ m) = hdf l ++ hdf m := by simp [hdf]
set_option maxRecDepth 100000 in
theorem one_slice (A : Option Addr) (n c : Nat) : (#[.slice A n c] : Array Value).all (·.oneCell') = true := by simp [Value.oneCell']
set_option maxRecDepth 100000 in
theorem ldinfo : (Try.prog.info? 88).map (·.size) = some 1 := by kernel_rfl
set_option maxRecDepth 100000 in
theorem hdc_ones2 (p : Hd) : ∀ z ∈ (hdc p).toList, z.oneCell' = true := fun z hz => Array.all_eq_true_iff_forall_mem.1 (hdc_one p) z (by simpa using hz)
set_option maxRecDepth 100000 in
set_option maxHeartbeats 2000000 in
theorem insertHEnd_any (sv : Value) (l : List Hd) (g : Nat) (p : Hd) (lo : Nat) (w : World) (hs : OwnH w lo sv l) (hl : l.length ≤ 100000) (hp : p.ok) (hg : Cs w g 97 (hdc p)) (hlo : lo ≤ w.heap.size) :
    Calls Try.prog 163 #[sv, .int .i64 (l.length : Nat), .slice (some ⟨g, 0, none⟩) 1 1] w fun e w' => ∃ v', e = .returned v' ∧ OwnH w' lo v' (l ++ [p]) ∧ w.grownBy w' sv.ownBlock := by
  have HS := Lib.hid hs
  have HP := Lib.hid (rs_hd1 hg)
  have HLW := Lib.hid (show ∀ q ∈ l ++ [p], q.ok from fun q hq => by
    rcases List.mem_append.1 hq with h | h
    · exact hs.2 q h
    · rw [List.mem_singleton.1 h]; exact hp)
  obtain ⟨_, A1, c, rfl, h1, h2, _⟩ := Rs.of_own hs.1
  unfold maxLen at h2
  have HLL := Lib.hid (show (l ++ [p]).length = l.length + 1 by simp)
  have HPA := Lib.hid (show hdf (l ++ [p]) = hdf l ++ (hdc p).toList by rw [hdf_app2, hdf_single])
  clear hs hg
  go_enter Try.func163, Try.ntmps163
  go_wp2_with (first
    | (at_builtin; refine wpList_append_row ?_ (.tmp 23) (.tmp 24) 86 rfl lo 97 Try.underlying86 _ 11 88 hdinfo3 rfl (by decide) (.slice A1 l.length c) l.length (hdf l) rfl HS.out.1 (.slice (some ⟨g, 0, none⟩) 1 1) 1 (hdc p).toList rfl HP.out (hdc_ones p) (by omega) (by decide) hlo ?_; (exact rfl); intro v5 w5 o5 g5 b5; have O5 := Lib.hid o5; have G5 := Lib.hid g5; clear o5 g5 b5))
  all_goals
    refine bodyPost_ret (results_tmp rfl _ _ _) rfl ?_
    exact ⟨_, rfl, ⟨by rw [HLL.out, HPA.out]; exact O5.out, HLW.out⟩, by have := G5.out; cases A1 <;> exact this⟩

set_option maxRecDepth 100000 in
theorem filter_takeH : ∀ (l : List Hd) (f : Hd → Bool) (n : Nat), (∀ i, i < l.length → (f (l.getD i hz0) = true ↔ i < n)) → l.filter f = l.take n
  | [], f, n, _ => by simp
  | p :: l, f, 0, h => by
    have h0 : f p = false := by have := h 0 (by simp); simpa using this
    rw [List.filter_cons, if_neg (by rw [h0]; simp), List.take_zero, List.filter_eq_nil_iff]
    intro q hq
    obtain ⟨i, hi, e⟩ := List.getElem_of_mem hq
    have := h (i + 1) (by simpa using hi)
    rw [List.getD_cons_succ, List.getD_eq_getElem?_getD, List.getElem?_eq_getElem hi] at this
    simpa [e] using this
  | p :: l, f, n + 1, h => by
    have h0 : f p = true := by have := h 0 (by simp); simpa using this
    rw [List.filter_cons, if_pos h0, List.take_succ_cons, filter_takeH l f n (fun i hi => by have := h (i + 1) (by simpa using hi); simpa using this)]
set_option maxRecDepth 100000 in
theorem filter_dropH : ∀ (l : List Hd) (f : Hd → Bool) (n : Nat), (∀ i, i < l.length → (f (l.getD i hz0) = true ↔ n ≤ i)) → l.filter f = l.drop n
  | [], f, n, _ => by simp
  | p :: l, f, 0, h => by
    have h0 : f p = true := by have := h 0 (by simp); simpa using this
    rw [List.filter_cons, if_pos h0, List.drop_zero, filter_dropH l f 0 (fun i hi => by have := h (i + 1) (by simpa using hi); simpa using this), List.drop_zero]
  | p :: l, f, n + 1, h => by
    have h0 : f p = false := by have := h 0 (by simp); simpa using this
    rw [List.filter_cons, if_neg (by rw [h0]; simp), List.drop_succ_cons, filter_dropH l f n (fun i hi => by have := h (i + 1) (by simpa using hi); simpa using this)]
set_option maxRecDepth 100000 in
theorem filt_ltH {l : List Hd} (h : RiseG l) (k : Nat) : l.filter (fun q => decide (q.addr < k)) = l.take (posG l k) :=
  filter_takeH l _ _ (fun i hi => by rw [decide_eq_true_eq]; exact posG_lt l k h i hi)
set_option maxRecDepth 100000 in
theorem filt_gtH {l : List Hd} (h : RiseG l) (k : Nat) : l.filter (fun q => decide (k < q.addr)) = l.drop (posG l k + if hasG l k then 1 else 0) :=
  filter_dropH l _ _ (fun i hi => by
    rw [decide_eq_true_eq]
    have h1 := posG_lt l k h i hi
    have hle := posG_le l k
    cases hh : hasG l k with
    | true =>
      unfold hasG at hh
      simp only [Bool.and_eq_true, decide_eq_true_eq] at hh
      rw [if_pos rfl]
      constructor
      · intro hk
        rcases Nat.lt_or_ge (posG l k) i with hlt | hge
        · exact hlt
        · rcases Nat.lt_or_eq_of_le hge with hlt | he
          · have := h1.2 hlt; omega
          · rw [← he] at hh; omega
      · intro hk
        have := h (posG l k) i (by omega) hi
        omega
    | false =>
      rw [if_neg (by simp), Nat.add_zero]
      constructor
      · intro hk
        rcases Nat.lt_or_ge i (posG l k) with hlt | hge
        · have := h1.2 hlt; omega
        · exact hge
      · intro hk
        have hge : ¬ (l.getD i hz0).addr < k := fun hlt => by have := h1.1 hlt; omega
        rcases Nat.lt_or_eq_of_le hk with hlt | he
        · have h2 := h (posG l k) i hlt hi
          have h3 : ¬ (l.getD (posG l k) hz0).addr < k := fun hx => by have := (posG_lt l k h _ (by omega)).1 hx; omega
          omega
        · refine Nat.lt_of_le_of_ne (by omega) (fun e => ?_)
          unfold hasG at hh
          rw [he, decide_eq_true (show i < l.length from hi), ← e] at hh
          simp at hh)
set_option maxRecDepth 100000 in
/-- slices.Insert of one slot, wherever. -/
theorem insertH_any (sv : Value) (i gp : Nat) (l : List Hd) (p : Hd) (lo : Nat) (w : World) (hs : OwnH w lo sv l) (hi : i ≤ l.length) (hl : l.length ≤ 100000) (hlo : lo ≤ w.heap.size) (hp : p.ok) (hg : Cs w gp 97 (hdc p)) (hne : sv.ownBlock ≠ some gp) :
    Calls Try.prog 163 #[sv, .int .i64 (i : Nat), .slice (some ⟨gp, 0, none⟩) 1 1] w fun e w' => ∃ v', e = .returned v' ∧ OwnH w' lo v' (l.take i ++ p :: l.drop i) ∧ w.grownBy w' sv.ownBlock := by
  by_cases he : i = l.length
  · subst he
    rw [List.take_length, List.drop_length]
    exact insertHEnd_any sv l gp p lo w hs hl hp hg hlo
  · obtain ⟨_, A, c, rfl, h1, _⟩ := Rs.of_own hs.1
    obtain ⟨g, rfl⟩ := own_addrH hs.1 (by omega)
    have hgne : gp ≠ g := fun e => hne (by rw [e]; rfl)
    have hcm := own_capH hs.1
    by_cases hc : c = l.length
    · exact insertHGrow_any g l.length c i gp l p lo w hs (by omega) hc hl hlo hp hg
    · exact insertHRoom_any g l.length c i gp l p lo w hs (by omega) (by omega) hl hp hg hgne

/-! ### Rows with another one in its place -/
def ltG (a : Nat) (l : List Hd) : List Hd := l.filter fun q => decide (q.addr < a)
def gtG (a : Nat) (l : List Hd) : List Hd := l.filter fun q => decide (a < q.addr)
def plG (l : List Hd) (h : Hd) : List Hd := ltG h.addr l ++ ((if h.hasB then [h] else []) ++ gtG h.addr l)
set_option maxRecDepth 100000 in
theorem plG_eq {l : List Hd} (hr : RiseG l) (h : Hd) : plG l h = l.take (posG l h.addr) ++ ((if h.hasB then [h] else []) ++ l.drop (posG l h.addr + if hasG l h.addr then 1 else 0)) := by
  unfold plG ltG gtG
  rw [filt_ltH hr, filt_gtH hr]
set_option maxRecDepth 100000 in
theorem take_drop_no (l : List Hd) (i d : Nat) (hi : i ≤ l.length) : (l.take i ++ l.drop (i + d)).take i = l.take i := by
  rw [List.take_left' (by rw [List.length_take]; omega)]
set_option maxRecDepth 100000 in
theorem take_drop_no2 (l : List Hd) (i d : Nat) (hi : i ≤ l.length) : (l.take i ++ l.drop (i + d)).drop i = l.drop (i + d) := by
  rw [List.drop_left' (by rw [List.length_take]; omega)]
set_option maxRecDepth 100000 in
theorem hasG_lt {l : List Hd} {a : Nat} (h : hasG l a = true) : posG l a < l.length := by
  unfold hasG at h
  simp only [Bool.and_eq_true, decide_eq_true_eq] at h
  exact h.1
set_option maxRecDepth 100000 in
theorem OwnH.sl {W : World} {base : Nat} {v : Value} {l : List Hd} (h : OwnH W base v l) : ∃ A c, v = .slice A l.length c ∧ l.length ≤ c ∧ c ≤ 9223372036854775807 := by
  obtain ⟨A, c, e, h1, h2⟩ := h.hds.len
  exact ⟨A, c, e, h1, by unfold maxLen at h2; omega⟩
set_option maxRecDepth 100000 in
theorem OwnH.lt {W : World} {base : Nat} {v : Value} {l : List Hd} (h : OwnH W base v l) (g : Nat) (hg : v.ownBlock = some g) : base ≤ g ∧ g < W.heap.size := h.rowO.lt g hg
set_option maxRecDepth 100000 in
theorem OwnH.len {l m : List Hd} (h : l = m) {W : World} {base : Nat} {v : Value} (k : OwnH W base v l) : OwnH W base v m := h ▸ k
set_option maxRecDepth 100000 in
theorem OwnH.keptT {W W' : World} {lo g : Nat} {t : TypeId} {v : Value} {l : List Hd} {cs : Array Value} (h : OwnH W lo v l) (hg : W.grownBy W' (some g)) (hs : Cs W g t cs) (ht : t ≠ 97) : OwnH W' lo v l := by
  refine ⟨h.1.kept hg ?_, h.2⟩
  rcases h.1.2 with ⟨e, _⟩ | ⟨g', cap, cur, e, _, hgg, _⟩
  · exact .inl (by rw [e]; rfl)
  · refine .inr (fun e' => ?_)
    rw [e] at e'
    injection e' with e'
    subst e'
    rw [show W.heap[g']? = _ from hs] at hgg
    cases hgg
    exact ht rfl
set_option maxRecDepth 100000 in
set_option maxHeartbeats 4000000 in
theorem ledger_any (h : Hd) (v : Value) (l : List Hd) (w : World) (hok : h.ok) (hs : Hds w v l) (hr : RiseG l) (hl : l.length ≤ 1000) :
    Calls Try.prog 127 #[.agg (tlc h v)] w fun e w' => ∃ v', e = .returned (.agg #[v']) ∧ OwnH w' w.heap.size v' (plG l h) ∧ Ext w w' := by
  have HS := Lib.hid hs
  have HR := Lib.hid hr
  have HOK := Lib.hid hok
  have hv1 : v.oneCell' = true := by obtain ⟨A, c, rfl, _⟩ := hs.len; rfl
  have HV := Lib.hid hv1
  have HA64 := Lib.hid hok.1
  have HPLE := Lib.hid (plG_eq hr h)
  have HPO := Lib.hid (posG_le l h.addr)
  obtain ⟨w0, hw0⟩ : ∃ w0, (w.alloc (.cells (tlc h v) 165)).alloc (.cells #[.slice none 0 0] 88) = w0 := ⟨_, rfl⟩
  have HW0 := Lib.hid hw0
  have HT : Hid (Tl w0 w.heap.size h v) := Lib.hid (by rw [← hw0]; exact Cs.alloc (Cs.new _ _ _ _ rfl) _)
  have HL : Hid (Cs w0 (w.heap.size + 1) 88 #[.slice none 0 0]) := Lib.hid (by rw [← hw0]; exact Cs.new _ _ _ _ (by rw [World.size_alloc]))
  have HE : Hid (Ext w w0) := Lib.hid (by rw [← hw0]; exact ((Ext.refl w).alloc _).alloc _)
  obtain ⟨tc, htc⟩ : ∃ tc, tlc h v = tc := ⟨_, rfl⟩
  have HTC := Lib.hid htc
  rw [htc] at HW0 ⊢
  clear hok hs hr hw0 htc hv1
  go_enter Try.func127, Try.ntmps127
  go_upto_region 1 with fail
  rw [HW0.out]
  clear HW0
  obtain ⟨g1, hg1⟩ : ∃ g1, w.heap.size = g1 := ⟨_, rfl⟩
  obtain ⟨g2, hg2⟩ : ∃ g2, w.heap.size + 1 = g2 := ⟨_, rfl⟩
  have HG2 := Lib.hid (show w.heap.size ≤ g2 by omega)
  rw [hg1] at HT
  rw [hg2] at HL ⊢
  rw [hg1]
  clear hg1 hg2
  have q11 := HT.out.rows
  go_wp2_with fail
  refine (cloneH_any v l _ (HS.out.ext HE.out) (by omega)).mono ?_
  rintro e w1 ⟨v1, rfl, ho, he⟩
  have HB := Lib.hid (Nat.le_trans HE.out.size (Nat.le_refl w0.heap.size))
  have HO1 := Lib.hid ho
  have HX := Lib.hid he
  clear q11 ho he
  have q0 := (HT.out.ext HX.out).addr
  go_wp2_with fail
  refine (findG_any v1 l h.addr _ HO1.out.hds HR.out (by omega)).mono ?_
  rintro e w2 ⟨rfl, he⟩
  have HX2 := Lib.hid (HX.out.trans he)
  have HO2 := Lib.hid (HO1.out.ext he)
  clear he HO1 HX q0
  obtain ⟨i, hi⟩ : ∃ i, posG l h.addr = i := ⟨_, rfl⟩
  have HI := Lib.hid hi
  have HGL := Lib.hid (fun (hh : hasG l h.addr = true) => show i < l.length by rw [← hi]; exact hasG_lt hh)
  rw [hi] at HPLE HPO ⊢
  clear hi
  obtain ⟨A1, c1, rfl, k1, k2⟩ := HO2.out.sl
  cases hh : hasG l h.addr with
  | false =>
    have HH := Lib.hid hh
    clear hh
    have HX3 := HX2
    have HO3 := HO2
    obtain ⟨n, hn⟩ : ∃ n, l.length = n := ⟨_, rfl⟩
    have HN := Lib.hid (show n = l.length from hn.symm)
    rw [hn] at HO3 k1 ⊢
    clear HX2 HO2 hn
    cases hb : h.hasB with
    | false =>
      have HHB := Lib.hid hb
      clear hb
      go_wp2_with ((with_reducible refine wpList_load_tl ?_ (.tmp 1) ?_ (g1) (h) (v) ?_ ?_ ?_); (exact rfl); (exact rfl); (exact rfl); (exact HT.out.ext HX3.out))
      refine (holds_any h v _ HOK.out HV.out).mono ?_
      rintro e w4 ⟨rfl, he⟩
      have HX4 := Lib.hid (HX3.out.trans he)
      have HO4 := Lib.hid (HO3.out.ext he)
      rw [HHB.out]
      clear he HX3 HO3
      have HFIN := Lib.hid (show plG l h = l by rw [HPLE.out, HHB.out, HH.out]; simp)
      have HLX := Lib.hid (Cs.ext HL.out HX4.out)
      by_cases hz : n = 0
      · have e0 : ((n : Int) == 0) = true := by rw [beq_iff_eq]; omega
        have e00 : (n == 0) = true := by rw [beq_iff_eq]; exact hz
        have HZ := Lib.hid (show plG l h = [] from by rw [HFIN.out]; exact List.length_eq_zero_iff.1 (HN.out.symm.trans hz))
        clear hz
        go_wp2_with ((with_reducible refine wpList_store_agg ?_ ?_ 88 (.tmp 2) (.tmp 34) ?_ ldinfo g2 #[.slice none 0 0] #[.slice none 0 0] ?_ ?_ ?_ ?_ ?_ ?_ ?_); (exact rfl); (exact rfl); (exact rfl); (exact one_slice _ _ _); (exact rfl); (exact rfl); (exact HLX.out); (exact rfl); (exact rfl); intro w7 k7 g7; have K7 := Lib.hid k7; have G7 := Lib.hid g7; clear k7 g7)
        refine bodyPost_ret (results_cell_row Try.results127 _ _ g2 88 _ (0, 0) _ rfl K7.out Try.underlying88 rfl ldinfo) rfl ?_
        exact ⟨_, rfl, by rw [HZ.out]; exact OwnH.nil _ _, (HE.out.trans HX4.out).grown G7.out HG2.out⟩
      · have e0 : ((n : Int) == 0) = false := by rw [beq_eq_false_iff_ne]; omega
        have e00 : (n == 0) = false := by rw [beq_eq_false_iff_ne]; exact hz
        clear hz
        go_wp2_with ((with_reducible refine wpList_store_agg ?_ ?_ 88 (.tmp 2) (.tmp 36) ?_ ldinfo g2 #[.slice none 0 0] #[.slice A1 (n) c1] ?_ ?_ ?_ ?_ ?_ ?_ ?_); (exact rfl); (exact rfl); (exact rfl); (exact one_slice _ _ _); (exact rfl); (exact rfl); (exact HLX.out); (exact rfl); (exact rfl); intro w7 k7 g7; have K7 := Lib.hid k7; have G7 := Lib.hid g7; clear k7 g7)
        refine bodyPost_ret (results_cell_row Try.results127 _ _ g2 88 _ (0, 0) _ rfl K7.out Try.underlying88 rfl ldinfo) rfl ?_
        exact ⟨_, rfl, (OwnH.len HFIN.out.symm (HO4.out.keptT G7.out HLX.out (by decide))).mono HB.out, (HE.out.trans HX4.out).grown G7.out HG2.out⟩
    | true =>
      have HHB := Lib.hid hb
      clear hb
      go_wp2_with ((with_reducible refine wpList_load_tl ?_ (.tmp 1) ?_ (g1) (h) (v) ?_ ?_ ?_); (exact rfl); (exact rfl); (exact rfl); (exact HT.out.ext HX3.out))
      refine (holds_any h v _ HOK.out HV.out).mono ?_
      rintro e w4 ⟨rfl, he⟩
      have HX4 := Lib.hid (HX3.out.trans he)
      have HO4 := Lib.hid (HO3.out.ext he)
      rw [HHB.out]
      clear he HX3 HO3
      have HHD := Lib.hid ((HT.out.ext HX4.out).hd)
      have HFIN := Lib.hid (show plG l h = (l).take i ++ h :: (l).drop i by rw [HPLE.out, HHB.out, HH.out]; simp)
      go_wp2_with (first
        | ((with_reducible refine wpList_load_hd ?_ (.tmp 27) ?_ (g1) (0) (h) ?_ ?_ ?_); (exact rfl); (exact rfl); (exact rfl); (exact HHD.out))
        | ((with_reducible refine wpList_build_one ?_ (.tmp 28) 86 97 ?_ Try.underlying86 _ 11 88 hdinfo3 (by decide) (by decide) (hdc h) rfl ?_ ?_); (exact rfl); (exact rfl); (exact rfl)))
      refine (insertH_any _ i w4.heap.size _ h w0.heap.size _ (HO4.out.ext ((Ext.refl _).alloc _)) (by exact HPO.out) (by omega) (by rw [World.size_alloc]; have := HX4.out.size; omega) HOK.out (Cs.new _ _ _ _ rfl) (fun e => by have := (HO4.out.lt _ e).2; omega)).mono ?_
      rintro e w5 ⟨v5, rfl, ho, hg⟩
      have HX5 := Lib.hid (Ext.appendR (HX4.out.trans ((Ext.refl _).alloc _)) (HO4.out.ext ((Ext.refl _).alloc _)).1 hg)
      have HO5 := Lib.hid (OwnH.len HFIN.out.symm ho)
      clear ho hg HO4 HX4 HHD
      obtain ⟨A5, c5, rfl, k5, k6⟩ := HO5.out.sl
      have HNE := Lib.hid (show (plG l h).length ≠ 0 by rw [HFIN.out]; simp)
      obtain ⟨m, hm⟩ : ∃ m, (plG l h).length = m := ⟨_, rfl⟩
      rw [hm] at HNE k5 HO5 ⊢
      clear hm
      have e0 : ((m : Int) == 0) = false := by rw [beq_eq_false_iff_ne]; have := HNE.out; omega
      have e00 : (m == 0) = false := by rw [beq_eq_false_iff_ne]; exact HNE.out
      have HLX := Lib.hid (Cs.ext HL.out HX5.out)
      go_wp2_with ((with_reducible refine wpList_store_agg ?_ ?_ 88 (.tmp 2) (.tmp 36) ?_ ldinfo g2 #[.slice none 0 0] #[.slice A5 (m) c5] ?_ ?_ ?_ ?_ ?_ ?_ ?_); (exact rfl); (exact rfl); (exact rfl); (exact one_slice _ _ _); (exact rfl); (exact rfl); (exact HLX.out); (exact rfl); (exact rfl); intro w7 k7 g7; have K7 := Lib.hid k7; have G7 := Lib.hid g7; clear k7 g7)
      refine bodyPost_ret (results_cell_row Try.results127 _ _ g2 88 _ (0, 0) _ rfl K7.out Try.underlying88 rfl ldinfo) rfl ?_
      exact ⟨_, rfl, (OwnH.len rfl (HO5.out.keptT G7.out HLX.out (by decide))).mono HB.out, (HE.out.trans HX5.out).grown G7.out HG2.out⟩
  | true =>
    have HH := Lib.hid hh
    have HIL := Lib.hid (HGL.out hh)
    clear hh
    obtain ⟨g, rfl⟩ := own_addrH HO2.out.1 (by have := HIL.out; omega)
    have hib : (i : Int) ≤ 1000 := by have := HIL.out; omega
    go_wp2_with fail
    rw [show ((i : Int) + 1) = ((i + 1 : Nat) : Int) by omega]
    refine (deleteH_any g l.length c1 i l w0.heap.size _ HO2.out HIL.out (by omega)).mono ?_
    rintro e w3 ⟨m, c', rfl, hm1, ho, hg⟩
    have HX3 := Lib.hid (Ext.appendR HX2.out HO2.out.1 hg)
    have HO3 := Lib.hid ho
    have HN := Lib.hid (show m = (l.take i ++ l.drop (i + 1)).length by rw [List.length_append, List.length_take, List.length_drop]; have := HIL.out; omega)
    clear HX2 HO2 ho hg
    obtain ⟨k3, k4⟩ : m ≤ c' ∧ c' ≤ 9223372036854775807 := own_capH HO3.out.1
    cases hb : h.hasB with
    | false =>
      have HHB := Lib.hid hb
      clear hb
      go_wp2_with ((with_reducible refine wpList_load_tl ?_ (.tmp 1) ?_ (g1) (h) (v) ?_ ?_ ?_); (exact rfl); (exact rfl); (exact rfl); (exact HT.out.ext HX3.out))
      refine (holds_any h v _ HOK.out HV.out).mono ?_
      rintro e w4 ⟨rfl, he⟩
      have HX4 := Lib.hid (HX3.out.trans he)
      have HO4 := Lib.hid (HO3.out.ext he)
      rw [HHB.out]
      clear he HX3 HO3
      have HFIN := Lib.hid (show plG l h = l.take i ++ l.drop (i + 1) by rw [HPLE.out, HHB.out, HH.out]; rfl)
      have HLX := Lib.hid (Cs.ext HL.out HX4.out)
      by_cases hz : m = 0
      · have e0 : ((m : Int) == 0) = true := by rw [beq_iff_eq]; omega
        have e00 : (m == 0) = true := by rw [beq_iff_eq]; exact hz
        have HZ := Lib.hid (show plG l h = [] from by rw [HFIN.out]; exact List.length_eq_zero_iff.1 (HN.out.symm.trans hz))
        clear hz
        go_wp2_with ((with_reducible refine wpList_store_agg ?_ ?_ 88 (.tmp 2) (.tmp 34) ?_ ldinfo g2 #[.slice none 0 0] #[.slice none 0 0] ?_ ?_ ?_ ?_ ?_ ?_ ?_); (exact rfl); (exact rfl); (exact rfl); (exact one_slice _ _ _); (exact rfl); (exact rfl); (exact HLX.out); (exact rfl); (exact rfl); intro w7 k7 g7; have K7 := Lib.hid k7; have G7 := Lib.hid g7; clear k7 g7)
        refine bodyPost_ret (results_cell_row Try.results127 _ _ g2 88 _ (0, 0) _ rfl K7.out Try.underlying88 rfl ldinfo) rfl ?_
        exact ⟨_, rfl, by rw [HZ.out]; exact OwnH.nil _ _, (HE.out.trans HX4.out).grown G7.out HG2.out⟩
      · have e0 : ((m : Int) == 0) = false := by rw [beq_eq_false_iff_ne]; omega
        have e00 : (m == 0) = false := by rw [beq_eq_false_iff_ne]; exact hz
        clear hz
        go_wp2_with ((with_reducible refine wpList_store_agg ?_ ?_ 88 (.tmp 2) (.tmp 36) ?_ ldinfo g2 #[.slice none 0 0] #[.slice (some ⟨g, 0, none⟩) (m) c'] ?_ ?_ ?_ ?_ ?_ ?_ ?_); (exact rfl); (exact rfl); (exact rfl); (exact one_slice _ _ _); (exact rfl); (exact rfl); (exact HLX.out); (exact rfl); (exact rfl); intro w7 k7 g7; have K7 := Lib.hid k7; have G7 := Lib.hid g7; clear k7 g7)
        refine bodyPost_ret (results_cell_row Try.results127 _ _ g2 88 _ (0, 0) _ rfl K7.out Try.underlying88 rfl ldinfo) rfl ?_
        exact ⟨_, rfl, (OwnH.len HFIN.out.symm (HO4.out.keptT G7.out HLX.out (by decide))).mono HB.out, (HE.out.trans HX4.out).grown G7.out HG2.out⟩
    | true =>
      have HHB := Lib.hid hb
      clear hb
      go_wp2_with ((with_reducible refine wpList_load_tl ?_ (.tmp 1) ?_ (g1) (h) (v) ?_ ?_ ?_); (exact rfl); (exact rfl); (exact rfl); (exact HT.out.ext HX3.out))
      refine (holds_any h v _ HOK.out HV.out).mono ?_
      rintro e w4 ⟨rfl, he⟩
      have HX4 := Lib.hid (HX3.out.trans he)
      have HO4 := Lib.hid (HO3.out.ext he)
      rw [HHB.out]
      clear he HX3 HO3
      have HHD := Lib.hid ((HT.out.ext HX4.out).hd)
      have HFIN := Lib.hid (show plG l h = (l.take i ++ l.drop (i + 1)).take i ++ h :: (l.take i ++ l.drop (i + 1)).drop i by rw [HPLE.out, HHB.out, HH.out, take_drop_no l i _ HPO.out, take_drop_no2 l i _ HPO.out]; rfl)
      go_wp2_with (first
        | ((with_reducible refine wpList_load_hd ?_ (.tmp 27) ?_ (g1) (0) (h) ?_ ?_ ?_); (exact rfl); (exact rfl); (exact rfl); (exact HHD.out))
        | ((with_reducible refine wpList_build_one ?_ (.tmp 28) 86 97 ?_ Try.underlying86 _ 11 88 hdinfo3 (by decide) (by decide) (hdc h) rfl ?_ ?_); (exact rfl); (exact rfl); (exact rfl)))
      refine (insertH_any _ i w4.heap.size _ h w0.heap.size _ (HO4.out.ext ((Ext.refl _).alloc _)) (by rw [← HN.out]; have := HIL.out; omega) (by rw [← HN.out]; omega) (by rw [World.size_alloc]; have := HX4.out.size; omega) HOK.out (Cs.new _ _ _ _ rfl) (fun e => by have := (HO4.out.lt _ e).2; omega)).mono ?_
      rintro e w5 ⟨v5, rfl, ho, hg⟩
      have HX5 := Lib.hid (Ext.appendR (HX4.out.trans ((Ext.refl _).alloc _)) (HO4.out.ext ((Ext.refl _).alloc _)).1 hg)
      have HO5 := Lib.hid (OwnH.len HFIN.out.symm ho)
      clear ho hg HO4 HX4 HHD
      obtain ⟨A5, c5, rfl, k5, k6⟩ := HO5.out.sl
      have HNE := Lib.hid (show (plG l h).length ≠ 0 by rw [HFIN.out]; simp)
      obtain ⟨m, hm⟩ : ∃ m, (plG l h).length = m := ⟨_, rfl⟩
      rw [hm] at HNE k5 HO5 ⊢
      clear hm
      have e0 : ((m : Int) == 0) = false := by rw [beq_eq_false_iff_ne]; have := HNE.out; omega
      have e00 : (m == 0) = false := by rw [beq_eq_false_iff_ne]; exact HNE.out
      have HLX := Lib.hid (Cs.ext HL.out HX5.out)
      go_wp2_with ((with_reducible refine wpList_store_agg ?_ ?_ 88 (.tmp 2) (.tmp 36) ?_ ldinfo g2 #[.slice none 0 0] #[.slice A5 (m) c5] ?_ ?_ ?_ ?_ ?_ ?_ ?_); (exact rfl); (exact rfl); (exact rfl); (exact one_slice _ _ _); (exact rfl); (exact rfl); (exact HLX.out); (exact rfl); (exact rfl); intro w7 k7 g7; have K7 := Lib.hid k7; have G7 := Lib.hid g7; clear k7 g7)
      refine bodyPost_ret (results_cell_row Try.results127 _ _ g2 88 _ (0, 0) _ rfl K7.out Try.underlying88 rfl ldinfo) rfl ?_
      exact ⟨_, rfl, (OwnH.len rfl (HO5.out.keptT G7.out HLX.out (by decide))).mono HB.out, (HE.out.trans HX5.out).grown G7.out HG2.out⟩
end Go.Proofs.Ytepggbhibpjkpaa
