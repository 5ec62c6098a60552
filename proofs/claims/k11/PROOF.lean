import PyProof.Rows.All
import Wide.All
import OpenK.AllK
import Wide.FinOn
import HandS.ForMost
import HandS.IsInst
import HandS.EndBits
import HandS.Wide
import HandS.WideBits
import HandS.TupAny
import HandS.Codes
import HandS.Defaults
import HandS.ForExc
import HandS.TryMany
import HandS.ExcIs
import HandS.TryElse
import HandS.DictComp
import HandS.Walk
import HandS.Text
import HandS.TupLe
import HandS.TupMul
import PySem.Challenge.RW_majordomo_k11_room_for_a_journal
set_option Elab.async false
set_option linter.all false
set_option maxRecDepth 100000
set_option maxHeartbeats 4000000

namespace My
open PySem PySem.Spec PyProof.Rows L2
/-! own words: tests, heaps, items -/
theorem ifd {p A B : Prop} [Decidable p] (h1 : p → A) (h2 : ¬ p → B) : if decide p = true then A else B := by
  by_cases h : p
  · rw [decide_eq_true h]; exact (if_pos rfl).mpr (h1 h)
  · rw [decide_eq_false h]; exact (if_neg Bool.false_ne_true).mpr (h2 h)
theorem ifn {p A B : Prop} [Decidable p] (h1 : ¬ p → A) (h2 : p → B) : if (!decide p) = true then A else B := by
  by_cases h : p
  · rw [decide_eq_true h]; exact (if_neg Bool.false_ne_true).mpr (h2 h)
  · rw [decide_eq_false h]; exact (if_pos rfl).mpr (h1 h)
theorem ift {p A B : Prop} [Decidable p] (h : p) (h1 : A) : if decide p = true then A else B := by
  rw [decide_eq_true h]; exact (if_pos rfl).mpr h1
theorem iff0 {p A B : Prop} [Decidable p] (h : ¬ p) (h1 : B) : if decide p = true then A else B := by
  rw [decide_eq_false h]; exact (if_neg Bool.false_ne_true).mpr h1
theorem ifnt {p A B : Prop} [Decidable p] (h : p) (h1 : B) : if (!decide p) = true then A else B := by
  rw [decide_eq_true h]; exact (if_neg Bool.false_ne_true).mpr h1
theorem ifbt {b : Bool} {A B : Prop} (h : b = true) (h1 : A) : if b = true then A else B := (if_pos h).mpr h1
theorem ifbf {b : Bool} {A B : Prop} (h : b = false) (h1 : B) : if b = true then A else B := by rw [h]; exact h1
theorem ifb2 {b : Bool} {A B : Prop} (h1 : b = true → A) (h2 : b = false → B) : if b = true then A else B := by
  cases b with
  | true => exact h1 rfl
  | false => exact h2 rfl
theorem same_upd {H : Hp} {p : Addr} {o : HO} (h : H p = none) : Same H (upd H p o) := fun b x e => by
  rw [upd_ne (ne_of_none e h)]
  exact e
theorem same_put {H H' : Hp} {p : Addr} {o : HO} (e : Same H H') (h : H p = none) : Same H (upd H' p o) := fun b x q => by
  rw [upd_ne (ne_of_none q h)]
  exact e b x q
theorem sqt_same {K : PySem.W.Frag} {H H' : Hp} {a : Addr} {xs : List V} (e : Same H H') (h : SqT K H a xs) : SqT K H' a xs := by
  rcases h with (h | ⟨o, h⟩) | h
  · exact .inl (.inl (e _ _ h))
  · exact .inl (.inr ⟨o, e _ _ h⟩)
  · exact .inr h
theorem sql {K : PySem.W.Frag} {H : Hp} {a : Addr} {xs : List V} (h : H a = some (.lst xs)) : SqL K H a xs := .inl (.inl h)
theorem sqt {K : PySem.W.Frag} {H : Hp} {a : Addr} {xs : List V} (h : H a = some (.tup xs)) : SqT K H a xs := .inl (.inl h)
theorem sz {n : Nat} (h : n ≤ 100000) : n ≤ sizeLine := Nat.le_trans h (by decide)
theorem szl {n : Nat} (h : n ≤ 100000) : n < sizeLine := Nat.lt_of_le_of_lt h (by decide)
theorem map_at {α : Type} {f : α → V} {xs : List α} {i : Nat} {y : V} (h : (xs.map f)[i]? = some y) : ∃ x, xs[i]? = some x ∧ y = f x := by
  rw [List.getElem?_map] at h
  cases e : xs[i]? with
  | none => rw [e] at h; cases h
  | some x => rw [e] at h; exact ⟨x, rfl, (Option.some.inj h).symm⟩
theorem at_map {α : Type} {f : α → V} {xs : List α} {i : Nat} {x : α} (h : xs[i]? = some x) : atI (xs.map f) (i : Int) = some (f x) := atI_nat (by rw [List.getElem?_map, h]; rfl)
theorem take_more {α : Type} {l : List α} {i : Nat} {x : α} (h : l[i]? = some x) : l.take (i + 1) = l.take i ++ [x] := by
  rw [List.take_add_one, h]; rfl
/-! deep data stands as long as what was tracked stands -/
mutual
theorem dp_same {K : PySem.W.Frag} {H H' : Hp} (e : Same H H') : ∀ (d : PyData) {v : V}, Dp K H v d → Dp K H' v d
  | _, _, .non => .non
  | _, _, .bl b => .bl b
  | _, _, .int i => .int i
  | _, _, .str x => .str x
  | .list ds, _, .lst h a => .lst (e.seq h) (dpa_same e ds a)
  | .tuple ds, _, .tup h a => .tup (sqt_same e h) (dpa_same e ds a)
theorem dpa_same {K : PySem.W.Frag} {H H' : Hp} (e : Same H H') : ∀ (ds : List PyData) {vs : List V}, DpAll K H vs ds → DpAll K H' vs ds
  | [], _, .nil => .nil
  | d :: ds, _, .cons h a => .cons (dp_same e d h) (dpa_same e ds a)
end
theorem dpa_len {K : PySem.W.Frag} {H : Hp} : ∀ {vs : List V} {ds : List PyData}, DpAll K H vs ds → vs.length = ds.length
  | _, _, .nil => rfl
  | _, _, .cons _ a => by rw [List.length_cons, List.length_cons, dpa_len a]
theorem dpa_at {K : PySem.W.Frag} {H : Hp} : ∀ {vs : List V} {ds : List PyData} {i : Nat} {v : V}, DpAll K H vs ds → vs[i]? = some v → ∃ d, ds[i]? = some d ∧ Dp K H v d
  | _, _, _, _, .nil, h => by simp at h
  | _, _, 0, _, .cons h _, e => ⟨_, rfl, by have := Option.some.inj e; subst this; exact h⟩
  | _, _, i + 1, _, .cons _ a, e => dpa_at (i := i) a (by simpa using e)
theorem dpa_app {K : PySem.W.Frag} {H : Hp} : ∀ {vs ws : List V} {ds es : List PyData}, DpAll K H vs ds → DpAll K H ws es → DpAll K H (vs ++ ws) (ds ++ es)
  | _, _, _, _, .nil, b => b
  | _, _, _, _, .cons h a, b => .cons h (dpa_app a b)
theorem eqv_self {d : PyData} (h : SeqAt.shaped d = true) : PyData.eqv d d = true := SeqAt.eqv_refl d (SeqAt.canLay_of_shaped h)
/-! data that may be compared -/
theorem layAll : ∀ {ds : List PyData}, (∀ d ∈ ds, d.canLay0 = true) → PyData.canLayAll0 ds = true
  | [], _ => rfl
  | d :: ds, h => by
    rw [PyData.canLayAll0, h d List.mem_cons_self, layAll fun e he => h e (List.mem_cons_of_mem _ he)]; rfl
theorem depAll {n : Nat} : ∀ {ds : List PyData}, (∀ d ∈ ds, d.depth ≤ n) → PyData.depthAll ds ≤ n
  | [], _ => Nat.zero_le _
  | d :: ds, h => by
    have h1 := h d List.mem_cons_self
    have h2 := depAll (ds := ds) fun e he => h e (List.mem_cons_of_mem _ he)
    simp only [PyData.depthAll]
    omega
/-- plain data of at most this depth -/
def Flat (n : Nat) (d : PyData) : Prop := d.canLay0 = true ∧ d.depth ≤ n
theorem flat_list {n : Nat} {ds : List PyData} (h : ∀ d ∈ ds, Flat n d) : Flat (n + 1) (.list ds) :=
  ⟨by rw [PyData.canLay0]; exact layAll fun d hd => (h d hd).1, by have := depAll (n := n) fun d hd => (h d hd).2; simp only [PyData.depth]; omega⟩
theorem flat_tup {n : Nat} {ds : List PyData} (h : ∀ d ∈ ds, Flat n d) : Flat (n + 1) (.tuple ds) :=
  ⟨by rw [PyData.canLay0]; exact layAll fun d hd => (h d hd).1, by have := depAll (n := n) fun d hd => (h d hd).2; simp only [PyData.depth]; omega⟩
theorem flat_int (n : Nat) (i : Int) : Flat n (.int i) := ⟨rfl, by simp [PyData.depth]⟩
theorem flat_str (n : Nat) (x : Str) (h : (PyData.str x).canLay0 = true := by decide +kernel) : Flat n (.str x) := ⟨h, by simp [PyData.depth]⟩
theorem flat_bl (n : Nat) (b : Bool) : Flat n (.bool b) := ⟨rfl, by simp [PyData.depth]⟩
theorem flat_non (n : Nat) : Flat n .none := ⟨rfl, by simp [PyData.depth]⟩
theorem Flat.mono {n m : Nat} {d : PyData} (h : Flat n d) (hm : n ≤ m) : Flat m d := ⟨h.1, Nat.le_trans h.2 hm⟩
theorem Flat.sh {n : Nat} {d : PyData} (h : Flat n d) (hn : n ≤ 64) : SeqAt.shaped d = true := by
  show (d.canLay0 && decide (d.depth ≤ 64)) = true
  rw [Bool.and_eq_true]
  exact ⟨h.1, decide_eq_true (Nat.le_trans h.2 hn)⟩
theorem tyx_t {K : PySem.W.Frag} {H : Hp} {a : Addr} {xs : List V} (h : SqT K H a xs) : TyX K H (.ref a) (.type "tuple") := by
  rcases h with (h | ⟨o, h⟩) | ⟨o, its, n, h, hc, _⟩
  · exact .base (.tup h)
  · exact .fTuple h
  · exact .kTuple h hc
theorem tyx_l {K : PySem.W.Frag} {H : Hp} {a : Addr} {xs : List V} (h : SqL K H a xs) : TyX K H (.ref a) (.type "list") := by
  rcases h with (h | ⟨o, h⟩) | ⟨o, its, n, h, hc, _⟩
  · exact .base (.lst h)
  · exact .base (.frz h)
  · exact .kList h hc
theorem same_both {G H : Hp} {t : Addr} {x : HO} (e : Same G H) : Same (upd G t x) (upd H t x) := fun b o h => by
  by_cases hb : b = t
  · subst hb; rw [upd_same] at h ⊢; exact h
  · rw [upd_ne hb] at h ⊢; exact e b o h
theorem set_self {α : Type} : ∀ {l : List α} {i : Nat} {x : α}, l[i]? = some x → l.set i x = l
  | [], i, x, h => by simp at h
  | a :: l, 0, x, h => by
    have e : a = x := Option.some.inj h
    subst e
    rfl
  | a :: l, i + 1, x, h => by
    show a :: l.set i x = a :: l
    rw [set_self (by simpa using h)]
theorem ixn {n j : Nat} {i : Int} (hi : i = (j : Int)) (hj : j < n) : ixN n i = some j := by
  unfold ixN
  rw [if_pos (by omega), if_pos (by omega)]
  congr 1
  omega
/-! shifts and masks in place -/
section
variable {X : Cx}
theorem ip_shr : PIp X .RShift (fun x y H Q => ∃ (i : Int) (k : Nat), x = .int i ∧ y = .int (k : Int) ∧ Q (.int (i / 2 ^ k)) H) := by
  intro pins s σ H x y v u Q I r1 r2 h
  obtain ⟨i, k, e1, e2, q⟩ := h
  subst e1; subst e2
  obtain ⟨t, rfl⟩ := r1
  obtain ⟨t', rfl⟩ := r2
  refine irshift_int (Int.natCast_nonneg k) ⟨.int _, H, I.tok _, ⟨_, rfl⟩, ?_⟩
  rw [Int.toNat_natCast, Int.fdiv_eq_ediv_of_nonneg _ (Int.le_of_lt (Int.pow_pos (by decide)))]
  exact q
theorem ip_or : PIp X .BitOr (fun x y H Q => ∃ (r a : Int) (k : Nat), x = .int r ∧ y = .int (a * 2 ^ k) ∧ (0 ≤ a ∧ 0 ≤ r ∧ r < 2 ^ k) ∧ Q (.int (r + a * 2 ^ k)) H) := by
  intro pins s σ H x y v u Q I r1 r2 h
  obtain ⟨r, a, k, e1, e2, ⟨h0, h1, h2⟩, q⟩ := h
  subst e1; subst e2
  obtain ⟨t, rfl⟩ := r1
  obtain ⟨t', rfl⟩ := r2
  refine ior_int ⟨.int _, H, I.tok _, ⟨_, rfl⟩, ?_⟩
  have e : Builtin.bitOr r (a * 2 ^ k) = r + a * 2 ^ k := by
    have hp : (0 : Int) ≤ a * 2 ^ k := Int.mul_nonneg h0 (Int.le_of_lt (Int.pow_pos (by decide)))
    rw [bitOr_nn h1 hp, Nat.or_comm, ← bitOr_nn hp h1, or_low h0 h1 h2, Int.add_comm]
  rw [e]
  exact q
end
theorem bits_small : ∀ n : Nat, n < 128 → Builtin.Int.intBits (n : Int) ≤ 8 := by decide +kernel
/-- isinstance(e, c) of the error that a suite holds, its class known by the reading -/
theorem call_isE1 {X : Cx} {a D : Addr} {oe : Obj} {cls : Value} {d : Option Addr} {pn : List (Addr × Obj)} (C : ExcC X.K D) (hz : Zc cls d oe) (hf : ∃ vs, oe.data = .fields vs) :
    CallR (X.suite a ((a, oe) :: pn)) (.builtin "isinstance") (fun xs H Q => cls = .ref D ∧ d = none ∧ rIsE X.K D a xs H Q) := fun pins s σ H xs us Q I r h => by
  obtain ⟨h1, h2, h⟩ := h
  subst h1
  subst h2
  exact call_isE C hz hf pins s σ H xs us Q I r h
/-! slices -/
theorem sIx_le {n d : Nat} {i : Nat} : HT.sIx n d (some (i : Int)) = min i n := HT.sIx_nat n d i
theorem cut0n (xs : List V) (j : Nat) : cutV xs none (some (j : Int)) = xs.take j := by
  unfold cutV
  rw [sIx_le, HT.sIx_none, List.drop_zero, Nat.sub_zero]
  exact (List.take_eq_take_min).symm
theorem cutnn (xs : List V) (i j : Nat) : cutV xs (some (i : Int)) (some (j : Int)) = (xs.drop i).take (j - i) := by
  unfold cutV
  rw [sIx_le, sIx_le]
  by_cases hi : i ≤ xs.length
  · rw [Nat.min_eq_left hi]
    by_cases hj : j ≤ xs.length
    · rw [Nat.min_eq_left hj]
    · rw [Nat.min_eq_right (by omega), List.take_of_length_le (by rw [List.length_drop]; omega), List.take_of_length_le (by rw [List.length_drop]; omega)]
  · have e : min i xs.length = xs.length := by omega
    rw [e, List.drop_of_length_le (Nat.le_refl _), List.drop_of_length_le (show xs.length ≤ i by omega), List.take_nil, List.take_nil]
theorem cut_ints (ns : List Int) {i j : Nat} {a b : Int} (ha : a = i) (hb : b = j) : cutV (ns.map V.int) (some a) (some b) = ((ns.drop i).take (j - i)).map V.int := by
  rw [ha, hb, cutnn, ← List.map_drop, ← List.map_take]
theorem rep_ints (ns : List Int) (k : Nat) : (List.replicate k (ns.map V.int)).flatten = (List.replicate k ns).flatten.map V.int := by
  rw [List.map_flatten, List.map_replicate]
/-- [e for x in a slice], e changes nothing -/
theorem lc_cut {K : PySem.W.Frag} {wi : TI} {te : TE} {s : Nat} {σ : L2.St} {H : Hp} {Q : VK} (xs : List V) (f : V → V)
    (hwi : ∀ R : It → Hp → Prop, (∀ p, H p = none → R (Itl K p) (upd H p (.lst xs))) → wi σ H R) (hlen : xs.length ≤ 90000)
    (hw : ∀ x, wipe ((wipe σ [s]).set s (some x)) [s] = wipe σ [s])
    (he : ∀ (i : Nat) (x : V) (G : Hp) (Q' : VK), xs[i]? = some x → Same H G → Q' (f x) G → te ((wipe σ [s]).set s (some x)) G Q')
    (k : ∀ D H', H D = none → Same H H' → H' D = some (.lst (xs.map f)) → Q (.ref D) H') : tLc wi (gName s) tYes te [s] σ H Q := by
  refine hwi _ fun p hp D hD => ?_
  have nD : D ≠ p := fun z => by rw [z, upd_same] at hD; cases hD
  have hD0 : H D = none := by rw [upd_ne nD] at hD; exact hD
  refine lc_list (K := K) (a := p) (xs := xs) (fun i H' => Same H H' ∧ H' p = some (.lst xs) ∧ H' D = some (.lst ((xs.take i).map f)))
    ⟨(same_upd hp).trans (same_upd hD), by rw [upd_ne nD.symm, upd_same], by rw [upd_same]; rfl⟩ (fun i H' _ h => sql h.2.1) (fun i x G hx hG => ?_) (fun G hG => ?_)
  · refine ⟨hw x, ?_⟩
    refine he i x G _ hx hG.1 ⟨_, hG.2.2, szl (by rw [List.length_map, List.length_take]; omega), same_put hG.1 hD0, by rw [upd_ne nD.symm]; exact hG.2.1, ?_⟩
    rw [upd_same, take_more hx, List.map_append]
    rfl
  · refine k D G hD0 hG.1 ?_
    rw [List.take_length] at hG
    exact hG.2.2
/-- lists of ints as data -/
theorem dpa_ints {K : PySem.W.Frag} {H : Hp} : ∀ ns : List Int, DpAll K H (ns.map V.int) (ns.map PyData.int)
  | [] => .nil
  | n :: ns => .cons (.int n) (dpa_ints ns)
theorem dp_ints {K : PySem.W.Frag} {H : Hp} {a : Addr} {ns : List Int} (h : SqL K H a (ns.map V.int)) : Dp K H (.ref a) (.list (ns.map PyData.int)) := .lst h (dpa_ints ns)
theorem flat_ints (ns : List Int) : Flat 1 (.list (ns.map PyData.int)) := flat_list (n := 0) fun d hd => by
  obtain ⟨i, _, rfl⟩ := List.mem_map.mp hd
  exact flat_int _ _
theorem flat_tints (ns : List Int) : Flat 1 (.tuple (ns.map PyData.int)) := flat_tup (n := 0) fun d hd => by
  obtain ⟨i, _, rfl⟩ := List.mem_map.mp hd
  exact flat_int _ _
theorem eqvAll_ints : ∀ xs ys : List Int, PyData.eqvAll (xs.map .int) (ys.map .int) = decide (xs = ys)
  | [], [] => rfl
  | [], _ :: _ => rfl
  | _ :: _, [] => rfl
  | x :: xs, y :: ys => by
    show ((x == y) && PyData.eqvAll (xs.map .int) (ys.map .int)) = _
    rw [eqvAll_ints xs ys, Bool.eq_iff_iff]
    simp
theorem eqv_ints (xs ys : List Int) : PyData.eqv (.list (xs.map .int)) (.list (ys.map .int)) = decide (xs = ys) := eqvAll_ints xs ys
theorem eqv_tints (xs ys : List Int) : PyData.eqv (.tuple (xs.map .int)) (.tuple (ys.map .int)) = decide (xs = ys) := eqvAll_ints xs ys
/-- a def with defaults that lets nothing out -/
theorem okD {P : Program} {w : World} {K : PySem.W.Frag} {mg : Str → Option Value} {base : Heap} {x qual : Str} {params : Arguments} {body : List Stmt} {scope : Scope} {dvs : List V} {kws : List (Str × V)} {f : Addr} {fd : FuncData} {N ps : List Str} {k : Nat} {sp : Sp}
    (F : FunD K x qual params body scope dvs kws f fd) (S : FnScope N ps scope) (len : ∀ vs H Q E, sp vs H Q E → vs.length = ps.length)
    (hb : ∀ (cdv : Value) (A : Around) (outer : List Env) (s : Shared) (H : Hp) (vs : List V) (Q : VK) (E : XK), Room k (A.deeper (envOfC qual scope s.heap.objs.size f cdv)) → sp vs H Q E →
      ∃ t, PSs (cxOf CX0 P w K mg base N qual scope f cdv A outer s H E).nox body t ∧ t { nx := fun _ H' => Q .non H', rt := Q } (start N vs) H) : FnOk P w K mg base CX0 (k + 1) f fd ps sp :=
  F.ok S len fun cdv A outer s H vs Q E hr h => by
    obtain ⟨t, h1, q⟩ := hb cdv A outer s H vs Q E hr h
    exact ⟨t, h1.nox, q⟩
/-! what an expression gives, whatever stands besides -/
def EI (te : TE) (σ : L2.St) (H : Hp) (v : V) : Prop := ∀ G, Same H G → ∀ Q : VK, Q v G → te σ G Q
def EA (ta : TA) (σ : L2.St) (H : Hp) (vs : List V) : Prop := ∀ G, Same H G → ∀ Q : List V → Hp → Prop, Q vs G → ta σ G Q
/-- a list, new or old -/
def EL (te : TE) (σ : L2.St) (H : Hp) (xs : List V) : Prop := ∀ G, Same H G → ∀ Q : VK, (∀ p G', Same G G' → G' p = some (.lst xs) → Q (.ref p) G') → te σ G Q
section
variable {K : PySem.W.Frag} {σ : L2.St} {H : Hp} {ta tb te : TE} {x y z v : V} {xs ys : List V}
theorem ei_var {i : Nat} (h : σ[i]? = some (some v)) : EI (tVar i) σ H v := fun _ _ _ q => ⟨v, h, q⟩
theorem ei_c : EI (tC v) σ H v := fun _ _ _ q => q
theorem ei_op {r : R2} (ha : EI ta σ H x) (hb : EI tb σ H y) (hr : ∀ G, Same H G → ∀ Q : VK, Q z G → r x y G Q) : EI (tOp r ta tb) σ H z := fun G s Q q => ha G s _ (hb G s _ (hr G s Q q))
theorem ei_i0 {g : Int → Int → V} {i j : Int} (ha : EI ta σ H (.int i)) (hb : EI tb σ H (.int j)) : EI (tOp (rI0 g) ta tb) σ H (g i j) := ei_op ha hb fun _ _ _ q => ⟨i, j, rfl, rfl, q⟩
theorem ei_ic {C : Int → Int → Prop} {g : Int → Int → V} {i j : Int} (ha : EI ta σ H (.int i)) (hb : EI tb σ H (.int j)) (hc : C i j) : EI (tOp (rI C g) ta tb) σ H (g i j) := ei_op ha hb fun _ _ _ q => ⟨i, j, rfl, rfl, hc, q⟩
theorem ea_nil : EA tNil σ H [] := fun _ _ _ q => q
theorem ea_cons {tr : TA} {vs : List V} (h : EI ta σ H x) (g : EA tr σ H vs) : EA (tCons ta tr) σ H (x :: vs) := fun G s _ q => h G s _ (g G s _ q)
theorem ei_cb {r : List V → Hp → VK → Prop} {tr : TA} {vs : List V} (ha : EA tr σ H vs) (hr : ∀ G, Same H G → ∀ Q : VK, Q z G → r vs G Q) : EI (tCB r tr) σ H z := fun G s Q q => ha G s _ (hr G s Q q)
/-- len of a list, list(..) of a list or a tuple, as they are read -/
def rLen (K : PySem.W.Frag) : List V → Hp → VK → Prop := fun xs H Q => ∃ p ys, xs = [.ref p] ∧ (SqL K H p ys ∨ SqT K H p ys) ∧ Q (.int ys.length) H
def rLst (K : PySem.W.Frag) : List V → Hp → VK → Prop := fun xs H Q => ∃ p ys, xs = [.ref p] ∧ (SqL K H p ys ∨ SqT K H p ys) ∧ ∀ l, H l = none → Q (.ref l) (upd H l (.lst ys))
def rTup (K : PySem.W.Frag) : List V → Hp → VK → Prop := fun xs H Q => ∃ p ys, xs = [.ref p] ∧ ((SqL K H p ys ∧ ∀ l, H l = none → Q (.ref l) (upd H l (.tup ys))) ∨ (SqT K H p ys ∧ Q (.ref p) H))
theorem callK_tuple {X : Cx} (h : X.K = K) : CallR X (.type "tuple") (rTup K) := by subst h; exact call_tuple_of
theorem callK_list {X : Cx} (h : X.K = K) : CallR X (.type "list") (rLst K) := by subst h; exact call_list_of
theorem opK_catA {X : Cx} (h : X.K = K) : OpR X (binaryOp .Add) (rCatA K) := by subst h; exact op_catA
theorem ixK_list {X : Cx} (h : X.K = K) : IxR X (rIxL K) := by subst h; exact ix_list
theorem ixK_tup {X : Cx} (h : X.K = K) : IxR X (rIxT K) := by subst h; exact ix_tup
theorem pe_fldK {X : Cx} {e : Expr} {f : Str} {pos : Pos} {ta : TE} (h : X.K = K) (he : PE X e ta) (hb : attributeBase e f X.env (eval e X.env) = eval e X.env) : PE X (.Attribute e f pos) (tFld K ta f) := by subst h; exact pe_fld he hb
theorem callK_len {X : Cx} (h : X.K = K) : CallR X (.builtin "len") (rLen K) := by subst h; exact call_len_seq
theorem ei_lenL {i : Nat} {p : Addr} (h : σ[i]? = some (some (.ref p))) (e : SqL K H p xs) : EI (tCB (rLen K) (tCons (tVar i) tNil)) σ H (.int (xs.length : Int)) := ei_cb (ea_cons (ei_var h) ea_nil) fun _ s _ q => ⟨p, xs, rfl, .inl (s.seq e), q⟩
theorem ei_lenT {i : Nat} {p : Addr} (h : σ[i]? = some (some (.ref p))) (e : SqT K H p xs) : EI (tCB (rLen K) (tCons (tVar i) tNil)) σ H (.int (xs.length : Int)) := ei_cb (ea_cons (ei_var h) ea_nil) fun _ s _ q => ⟨p, xs, rfl, .inr (sqt_same s e), q⟩
theorem ei_fld {i : Nat} {p C dx : Addr} {fs : List (Str × V)} {f : Str} (h : σ[i]? = some (some (.ref p))) (hp : H p = some (.ins C dx fs)) (c : Cls K C) (n : NoAttr K C f) (l : fs.lookup f = some v) : EI (tFld K (tVar i) f) σ H v := fun _ s _ q => ⟨.ref p, h, p, C, dx, fs, v, rfl, s _ _ hp, c, n, l, q⟩
theorem ei_din {td : TE} {d : Addr} {kvs : List (Key × V)} {k : Key} (hy : EI te σ H (kV k)) (hd : EI td σ H (.ref d)) (e : H d = some (.dK kvs)) : EI (tDIn te td) σ H (.bl (valV kvs k).isSome) := fun G s _ q => hy G s _ (hd G s _ ⟨d, _, rfl, DGet.k (s _ _ e), q⟩)
theorem ei_dnotin {td : TE} {d : Addr} {kvs : List (Key × V)} {k : Key} (hy : EI te σ H (kV k)) (hd : EI td σ H (.ref d)) (e : H d = some (.dK kvs)) : EI (tDNotIn te td) σ H (.bl (!(valV kvs k).isSome)) := fun G s _ q => hy G s _ (hd G s _ ⟨d, _, rfl, DGet.k (s _ _ e), q⟩)
theorem ei_dget {td : TE} {d : Addr} {kvs : List (Key × V)} {k : Key} (hy : EI te σ H (kV k)) (hd : EI td σ H (.ref d)) (e : H d = some (.dK kvs)) (hv : valV kvs k = some v) : EI (tDGet td te) σ H v := fun G s _ q => hd G s _ (hy G s _ ⟨d, v, rfl, by rw [← hv]; exact DGet.k (s _ _ e), q⟩)
theorem ei_ixL {p : Addr} {j : Int} (ha : EI ta σ H (.ref p)) (hi : EI tb σ H (.int j)) (e : SqL K H p xs) (h : atI xs j = some v) : EI (tOp (rIxL K) ta tb) σ H v := ei_op ha hi fun _ s _ q => ⟨p, xs, j, v, rfl, rfl, s.seq e, h, q⟩
theorem ei_ixT {p : Addr} {j : Int} (ha : EI ta σ H (.ref p)) (hi : EI tb σ H (.int j)) (e : SqT K H p xs) (h : atI xs j = some v) : EI (tOp (rIxT K) ta tb) σ H v := ei_op ha hi fun _ s _ q => ⟨p, xs, j, v, rfl, rfl, sqt_same s e, h, q⟩
theorem ei_eq (ha : EI ta σ H x) (hb : EI tb σ H y) (h : scal x y = true) : EI (tOp rEq ta tb) σ H (.bl (decide (x = y))) := ei_op ha hb fun _ _ _ q => ⟨h, q⟩
theorem ei_ne (ha : EI ta σ H x) (hb : EI tb σ H y) (h : scal x y = true) : EI (tOp rNe ta tb) σ H (.bl (!decide (x = y))) := ei_op ha hb fun _ _ _ q => ⟨h, q⟩
/-- a test by its value -/
theorem tt_use {b : Bool} {Q : Bool → Hp → Prop} (h : EI te σ H (.bl b)) (k : Q b H) : tTest te σ H Q := h H (Same.refl _) _ ⟨b, rfl, k⟩
theorem tb_use {b : Bool} {Q : Bool → Hp → Prop} (h : EI te σ H (.bl b)) (k : Q b H) : tB te σ H Q := h H (Same.refl _) _ ⟨b, rfl, k⟩
theorem el_var {i : Nat} {p : Addr} (h : σ[i]? = some (some (.ref p))) (e : H p = some (.lst xs)) : EL (tVar i) σ H xs := fun G s _ q => ⟨.ref p, h, q p G (Same.refl _) (s _ _ e)⟩
/-- a new list -/
def EN (te : TE) (σ : L2.St) (H : Hp) (xs : List V) : Prop := ∀ G, Same H G → ∀ Q : VK, (∀ p G', G p = none → Same G G' → G' p = some (.lst xs) → Q (.ref p) G') → te σ G Q
theorem EN.el (h : EN te σ H xs) : EL te σ H xs := fun G s Q q => h G s Q fun p G' _ => q p G'
theorem en_lst {tr : TA} {vs : List V} (ha : EA tr σ H vs) (hl : vs.length ≤ 90000) : EN (tLst tr) σ H vs := fun G s _ q => ha G s _ ⟨sz (by omega), fun p hp => q p _ hp (same_upd hp) upd_same⟩
theorem en_cat (ha : EL ta σ H xs) (hb : EL tb σ H ys) (hl : xs.length + ys.length ≤ 90000) : EN (tOp rCat ta tb) σ H (xs ++ ys) := fun G s _ q =>
  ha G s _ fun p G1 s1 e1 => hb G1 (s.trans s1) _ fun p2 G2 s2 e2 => ⟨p, p2, xs, ys, rfl, rfl, s2 _ _ e1, e2, sz (by omega), fun p3 h3 => q p3 _ ((s1.trans s2).free h3) ((s1.trans s2).trans (same_upd h3)) upd_same⟩
theorem en_rep {k : Int} (ha : EL ta σ H xs) (hb : EI tb σ H (.int k)) (h1 : -1000000 ≤ k) (h2 : k ≤ 1000000) (hl : xs.length * k.toNat ≤ 90000) : EN (tOp rRep ta tb) σ H (List.replicate k.toNat xs).flatten := fun G s _ q =>
  ha G s _ fun p G1 s1 e1 => hb G1 (s.trans s1) _ ⟨p, k, xs, rfl, rfl, e1, by omega, by omega, sz (by omega), fun p3 h3 => q p3 _ (s1.free h3) (s1.trans (same_upd h3)) upd_same⟩
theorem el_lst {tr : TA} {vs : List V} (ha : EA tr σ H vs) (hl : vs.length ≤ 90000) : EL (tLst tr) σ H vs := (en_lst ha hl).el
theorem el_cat (ha : EL ta σ H xs) (hb : EL tb σ H ys) (hl : xs.length + ys.length ≤ 90000) : EL (tOp rCat ta tb) σ H (xs ++ ys) := (en_cat ha hb hl).el
theorem el_rep {k : Int} (ha : EL ta σ H xs) (hb : EI tb σ H (.int k)) (h1 : -1000000 ≤ k) (h2 : k ≤ 1000000) (hl : xs.length * k.toNat ≤ 90000) : EL (tOp rRep ta tb) σ H (List.replicate k.toNat xs).flatten := (en_rep ha hb h1 h2 hl).el
theorem el_cb {r : List V → Hp → VK → Prop} {tr : TA} {vs : List V} (ha : EA tr σ H vs) (hr : ∀ G, Same H G → ∀ Q : VK, (∀ p G', Same G G' → G' p = some (.lst xs) → Q (.ref p) G') → r vs G Q) : EL (tCB r tr) σ H xs := fun G s Q q => ha G s _ (hr G s Q q)
theorem el_call {sp : Sp} {dvs : List V} {E : XK} {tr : TA} {vs : List V} (ha : EA tr σ H vs) (hr : ∀ G, Same H G → ∀ Q : VK, (∀ p G', Same G G' → G' p = some (.lst xs) → Q (.ref p) G') → sp (vs ++ dvs) G Q E) : EL (tCall sp dvs E tr) σ H xs := fun G s Q q => ha G s _ (hr G s Q q)
theorem el_listL {i : Nat} {p : Addr} (h : σ[i]? = some (some (.ref p))) (e : SqL K H p xs) : EL (tCB (rLst K) (tCons (tVar i) tNil)) σ H xs := el_cb (ea_cons (ei_var h) ea_nil) fun _ s _ q => ⟨p, xs, rfl, .inl (s.seq e), fun l hl => q l _ (same_upd hl) upd_same⟩
theorem el_listT {i : Nat} {p : Addr} (h : σ[i]? = some (some (.ref p))) (e : SqT K H p xs) : EL (tCB (rLst K) (tCons (tVar i) tNil)) σ H xs := el_cb (ea_cons (ei_var h) ea_nil) fun _ s _ q => ⟨p, xs, rfl, .inr (sqt_same s e), fun l hl => q l _ (same_upd hl) upd_same⟩
/-- x = an expression that gives a list -/
theorem EL.use {Q : VK} (h : EL te σ H xs) (k : ∀ p H', Same H H' → H' p = some (.lst xs) → Q (.ref p) H') : te σ H Q := h H (Same.refl _) Q k
theorem EN.use {Q : VK} (h : EN te σ H xs) (k : ∀ p H', H p = none → Same H H' → H' p = some (.lst xs) → Q (.ref p) H') : te σ H Q := h H (Same.refl _) Q k
theorem EI.use {Q : VK} (h : EI te σ H v) (k : Q v H) : te σ H Q := h H (Same.refl _) Q k
end
/-- defaults: what is bound where keywords give the rest -/
theorem kb_one {K : PySem.W.Frag} {x qual : Str} {params : Arguments} {body : List Stmt} {scope : Scope} {dvs : List V} {f : Addr} {fd : FuncData} {ps : List Str} (F : FunD K x qual params body scope dvs [] f fd) (n : Nat) (ks : List Str) (hd : dvs ≠ [])
    (h : ∀ (T : Addr) (kV doc pm : Value) (an : Option Addr) (cdv ct : Value) (us ws its : List Value), us.length = n → ws.length = ks.length → its.length = dvs.length →
      ∃ k, bindArgs (PySem.W.fnOf x qual params body scope (.ref T) kV doc pm an cdv ct) ⟨us, ks.zip ws⟩ = seqItems? (.ref T) >>= k ∧ k (some its.toArray) = pure (ps.zip (us ++ ws))) :
    KBn K fd ps n ks (fun us ws => us ++ ws) (fun vs zs => vs ++ zs) := by
  obtain ⟨oc, od, dV, kV, doc, pm, an, cdv, ct, osl, rfl, lk, hcd, hD, hK⟩ := F.ex
  rcases hD with ⟨e, _⟩ | ⟨_, T, o, its, m, rfl, lT, oT, rT⟩
  · exact absurd e hd
  · refine ⟨fun s us ws X h1 h2 => BindsTo.of_looks fun M => ?_, fun r1 r2 => r1.append r2⟩
    obtain ⟨k, e1, e2⟩ := h T kV doc pm an cdv ct us ws its h1 h2 rT.length.symm
    rw [e1]
    exact looks_items X lT oT (.of_pure e2)
theorem andV_use {ta tb : TE} {σ : L2.St} {H : Hp} {Q : VK} {x y : Bool} (h1 : EI ta σ H (.bl x)) (h2 : x = true → ∀ Q' : VK, (∀ H', Same H H' → Q' (.bl y) H') → tb σ H Q') (k : ∀ H', Same H H' → Q (.bl (x && y)) H') : tAndV ta tb σ H Q := by
  refine h1 H (Same.refl _) _ ⟨x, rfl, ?_⟩
  cases x with
  | true => exact (if_pos rfl).mpr (h2 rfl _ k)
  | false => exact (if_neg Bool.false_ne_true).mpr (k H (Same.refl _))
/-- what is locked and let go stands as it stood -/
theorem unlock {H H' : Hp} {d : Addr} {od : Obj} {u : HO} (e : H d = some u) (s : Same (upd H d (.frz od u)) H') : Same H (upd H' d u) := fun b o h => by
  by_cases hb : b = d
  · subst hb
    rw [upd_same, ← e]
    exact h
  · rw [upd_ne hb]
    exact s b o (by rw [upd_ne hb]; exact h)
theorem take_filter {α : Type} {l : List α} {i : Nat} {x : α} (f : α → Bool) (h : l[i]? = some x) : (l.take (i + 1)).filter f = (l.take i).filter f ++ if f x then [x] else [] := by
  rw [take_more h, List.filter_append]
  cases e : f x <;> simp [e]
/-- [e for k in d if t] over the keys of a dict, t and e change nothing -/
theorem lc_keys {td te : TE} {tt : TT} {s : Nat} {σ : L2.St} {H : Hp} {Q : VK} (d : Addr) (kvs : List (Key × V)) (f : Key → Bool) (g : Key → V) (e : H d = some (.dK kvs)) (hlen : kvs.length ≤ 90000)
    (htd : ∀ od, EI td σ (upd H d (.frz od (.dK kvs))) (.ref d))
    (hw : ∀ x, wipe ((wipe σ [s]).set s (some x)) [s] = wipe σ [s])
    (ht : ∀ (od : Obj) (i : Nat) (k : Key) (v : V) (G : Hp) (Q' : Bool → Hp → Prop), kvs[i]? = some (k, v) → Same (upd H d (.frz od (.dK kvs))) G → Q' (f k) G → tt ((wipe σ [s]).set s (some (kV k))) G Q')
    (he : ∀ (od : Obj) (i : Nat) (k : Key) (v : V) (G : Hp) (Q' : VK), kvs[i]? = some (k, v) → Same (upd H d (.frz od (.dK kvs))) G → Q' (g k) G → te ((wipe σ [s]).set s (some (kV k))) G Q')
    (k : ∀ D H', H D = none → Same H H' → H' D = some (.lst ((kvs.filter fun kv => f kv.1).map fun kv => g kv.1)) → Q (.ref D) H') : tLockE (tLc (iKeys td) (gName s) tt te [s]) σ H Q := by
  refine ⟨d, _, e, trivial, fun od => htd od _ (Same.refl _) _ ⟨d, od, rfl, .inl ⟨kvs, upd_same, fun D hD => ?_⟩⟩⟩
  have nD : D ≠ d := fun z => by rw [z, upd_same] at hD; cases hD
  have hD0 : H D = none := by rw [upd_ne nD] at hD; exact hD
  refine lc_it walk_keys (fun i G => Same (upd H d (.frz od (.dK kvs))) G ∧ G D = some (.lst (((kvs.take i).filter fun kv => f kv.1).map fun kv => g kv.1)))
    ⟨same_upd hD, upd_same⟩ (fun i G _ h => h.1 _ _ upd_same) (fun i x G G' hi hG hy => ?_) (fun G hG => ?_)
  · obtain ⟨rfl, key, v, hkv, rfl⟩ := hy
    have hfl : ((kvs.take i).filter fun kv => f kv.1).length ≤ 90000 := Nat.le_trans (List.length_filter_le _ _) (by rw [List.length_take]; omega)
    refine ⟨hw _, ht od i key v _ _ hkv hG.1 ?_⟩
    have hts := take_filter (fun kv : Key × V => f kv.1) hkv
    cases hf : f key with
    | true =>
      refine (if_pos rfl).mpr (he od i key v _ _ hkv hG.1 ⟨_, hG.2, szl (by rw [List.length_map]; omega), same_put hG.1 hD, ?_⟩)
      rw [upd_same, hts, List.map_append]
      simp only [hf, if_true]
      rfl
    | false =>
      refine (if_neg Bool.false_ne_true).mpr ⟨hG.1, ?_⟩
      rw [hts]
      simp only [hf, Bool.false_eq_true, if_false, List.append_nil]
      exact hG.2
  · rw [List.take_length] at hG
    refine ⟨hG.1 _ _ upd_same, k D _ hD0 (unlock e hG.1) ?_⟩
    rw [upd_ne nD]
    exact hG.2
theorem put_fresh {kvs : List (Key × V)} {k : Key} {v : V} (h : ∀ kv ∈ kvs, kv.1 ≠ k) : putK kvs k v = kvs ++ [(k, v)] := by
  unfold putK
  rw [if_neg]
  intro z
  obtain ⟨kv, hm, hk⟩ := List.any_eq_true.mp z
  exact h kv hm (of_decide_eq_true hk)
theorem nd_ne {α β : Type} {l : List (α × β)} {i : Nat} {x : α × β} (nd : (l.map (·.1)).Nodup) (h : l[i]? = some x) : ∀ y ∈ l.take i, y.1 ≠ x.1 := fun y hy z => by
  obtain ⟨j, hj, rfl⟩ := List.getElem_of_mem hy
  rw [List.length_take] at hj
  rw [List.getElem_take] at z
  obtain ⟨hi, rfl⟩ := List.getElem?_eq_some_iff.mp h
  have e1 : (l.map (·.1))[j]? = some l[i].1 := by rw [List.getElem?_map, List.getElem?_eq_getElem (by omega), ← z]; rfl
  have e2 : (l.map (·.1))[i]? = some l[i].1 := by rw [List.getElem?_map, List.getElem?_eq_getElem hi]; rfl
  have := nd_ix nd e1 e2
  omega
/-- {k: e for k in d if t} over the keys of a dict -/
theorem dc_keys {td tv : TE} {tt : TT} {s : Nat} {σ : L2.St} {H : Hp} {Q : VK} (d : Addr) (kvs : List (Key × V)) (f : Key → Bool) (g : Key × V → V) (e : H d = some (.dK kvs)) (hlen : kvs.length ≤ 90000) (nd : (kvs.map (·.1)).Nodup)
    (htd : ∀ od, EI td σ (upd H d (.frz od (.dK kvs))) (.ref d))
    (hw : ∀ x, wipe ((wipe σ [s]).set s (some x)) [s] = wipe σ [s])
    (ht : ∀ (od : Obj) (i : Nat) (k : Key) (v : V) (G : Hp) (Q' : Bool → Hp → Prop), kvs[i]? = some (k, v) → Same (upd H d (.frz od (.dK kvs))) G → Q' (f k) G → tt ((wipe σ [s]).set s (some (kV k))) G Q')
    (he : ∀ (od : Obj) (i : Nat) (k : Key) (v : V) (G : Hp) (Q' : VK), kvs[i]? = some (k, v) → f k = true → Same (upd H d (.frz od (.dK kvs))) G → Q' (g (k, v)) G → tv ((wipe σ [s]).set s (some (kV k))) G Q')
    (hn : ∀ i, (wipe σ [s]).length = i → s < i)
    (k : ∀ D H', H D = none → Same H H' → H' D = some (.dK ((kvs.filter fun kv => f kv.1).map fun kv => (kv.1, g kv))) → Q (.ref D) H') : tLockE (tDc (iKeys td) (gName s) tt (tVar s) tv [s]) σ H Q := by
  have hs : s < (wipe σ [s]).length := hn _ rfl
  refine ⟨d, _, e, trivial, fun od => htd od _ (Same.refl _) _ ⟨d, od, rfl, .inl ⟨kvs, upd_same, fun D hD => ?_⟩⟩⟩
  have nD : D ≠ d := fun z => by rw [z, upd_same] at hD; cases hD
  have hD0 : H D = none := by rw [upd_ne nD] at hD; exact hD
  let Pv : Nat → Hp → Prop := fun i G => Same (upd H d (.frz od (.dK kvs))) G ∧ G D = some (.dK (((kvs.take i).filter fun kv => f kv.1).map fun kv => (kv.1, g kv)))
  have step : ∀ i x G G', i < kvs.length → Pv i G → (G' = G ∧ ∃ k v, kvs[i]? = some (k, v) ∧ x = kV k) → gName s x (wipe σ [s]) G' fun σ2 H2 => wipe σ2 [s] = wipe σ [s] ∧ tt σ2 H2 fun b H3 =>
      if b = true then tVar s σ2 H3 fun y H4 => tv σ2 H4 fun z H5 => ∃ kvs' k', y = kV k' ∧ H5 D = some (.dK kvs') ∧ kvs'.length < sizeLine ∧ Pv (i + 1) (upd H5 D (.dK (putK kvs' k' z))) else Pv (i + 1) H3 := fun i x G G' hi hG hy => by
    obtain ⟨rfl, key, v, hkv, rfl⟩ := hy
    have hfl : ((kvs.take i).filter fun kv => f kv.1).length ≤ 90000 := Nat.le_trans (List.length_filter_le _ _) (by rw [List.length_take]; omega)
    refine ⟨hw _, ht od i key v _ _ hkv hG.1 ?_⟩
    have hts := take_filter (fun kv : Key × V => f kv.1) hkv
    cases hf : f key with
    | true =>
      refine (if_pos rfl).mpr ⟨kV key, by rw [List.getElem?_set_self hs], he od i key v _ _ hkv hf hG.1 ⟨_, key, rfl, hG.2, szl (by rw [List.length_map]; omega), same_put hG.1 hD, ?_⟩⟩
      rw [upd_same, hts, List.map_append, put_fresh]
      · simp only [hf, if_true]
        rfl
      · intro kv hm
        obtain ⟨y, hy, rfl⟩ := List.mem_map.mp hm
        exact nd_ne nd hkv y (List.mem_filter.mp hy).1
    | false =>
      refine (if_neg Bool.false_ne_true).mpr ⟨hG.1, ?_⟩
      rw [hts]
      simp only [hf, Bool.false_eq_true, if_false, List.append_nil]
      exact hG.2
  refine ⟨fun i m G => m = kvs.length - i ∧ i ≤ kvs.length ∧ Pv i G, ⟨kvs.length, by simp, Nat.zero_le _, same_upd hD, upd_same⟩, ?_⟩
  rintro i m G ⟨rfl, hi, hP⟩
  by_cases hlt : i < kvs.length
  · exact .inr ⟨⟨hP.1 _ _ upd_same, hlt⟩, Pv (i + 1), fun G' p' => ⟨kvs.length - (i + 1), by omega, rfl, hlt, p'⟩, fun x G' y => step i x G G' hlt hP y⟩
  · have ei : i = kvs.length := by omega
    subst ei
    obtain ⟨h1, h2⟩ := hP
    rw [List.take_length] at h2
    refine .inl ⟨⟨h1 _ _ upd_same, Nat.le_refl _⟩, h1 _ _ upd_same, k D _ hD0 (unlock e h1) ?_⟩
    rw [upd_ne nD]
    exact h2
/-! the same within a comprehension -/
section
variable {K : PySem.W.Frag} {X : Cx} {pos : Pos}
theorem pgK_tup {es : List Expr} {k : Nat} {t : TGs} {n : Nat} (hK : X.K = K) (hc : X.calm = true) (h : PGs X es t)
    (hn : (assignEach es X.env).length = n := by rfl) (hst : (assignEach es X.env).findIdx? (·.1) = none := by rfl) : PG X (.Tuple es k pos) (gTup K n t) := by subst hK; exact pg_tup hc h hn hst
theorem opK_in (h : X.K = K) : OpR X (compareOp .In) (rIn K false) := by subst h; exact op_in_seq
theorem opK_notIn (h : X.K = K) : OpR X (compareOp .NotIn) (rIn K true) := by subst h; exact op_notIn_seq
theorem opK_eqD (h : X.K = K) (hu : X.A.units + 64 < cLine) : OpR X (compareOp .Eq) (rEqD K) := by subst h; exact op_eqD hu
theorem opK_neD (h : X.K = K) (hu : X.A.units + 64 < cLine) : OpR X (compareOp .NotEq) (rNeD K) := by subst h; exact op_neD hu
theorem callK_isi (h : X.K = K) : CallR X (.builtin "isinstance") (rIsi K) := by subst h; exact call_isi
theorem slK_tup (h : X.K = K) : SlR X (rSlT K) := by subst h; exact sl_tup
end
end My
local macro_rules | `(tactic| walk_at "go") => `(tactic| try dsimp only [L2.gName, L2.tSeq, L2.tAsg, L2.tNext, L2.tDrop])
namespace My
open PySem PySem.Spec PyProof.Rows L2
def topS (i : Nat) : Stmt := PySem.Challenge.pw_majordomo_k11_room_for_a_journal.main.body.getD i (.Pass ⟨0, 0, 0, 0⟩)
abbrev s_has_plain_characters : Stmt := (topS 12)
theorem sc_has_plain_characters : FnScope ["text", "character", "code"] ["text"] (defScope s_has_plain_characters) := ⟨rfl, rfl, rfl, by decide +kernel, rfl, by decide +kernel, by decide +kernel⟩
abbrev s_put_number : Stmt := (topS 15)
theorem sc_put_number : FnScope ["number", "row"] ["number"] (defScope s_put_number) := ⟨rfl, rfl, rfl, by decide +kernel, rfl, by decide +kernel, by decide +kernel⟩
abbrev s_take_number : Stmt := (topS 16)
theorem sc_take_number : FnScope ["row", "index", "number", "shift", "at", "byte"] ["row", "index"] (defScope s_take_number) := ⟨rfl, rfl, rfl, by decide +kernel, rfl, by decide +kernel, by decide +kernel⟩
abbrev s_is_value : Stmt := (topS 30)
theorem sc_is_value : FnScope ["value"] ["value"] (defScope s_is_value) := ⟨rfl, rfl, rfl, by decide +kernel, rfl, by decide +kernel, by decide +kernel⟩
abbrev s__is_value_within : Stmt := (topS 31)
theorem sc__is_value_within : FnScope ["value", "depth", "member"] ["value", "depth"] (defScope s__is_value_within) := ⟨rfl, rfl, rfl, by decide +kernel, rfl, by decide +kernel, by decide +kernel⟩
abbrev s_pack : Stmt := (topS 32)
theorem sc_pack : FnScope ["value"] ["value"] (defScope s_pack) := ⟨rfl, rfl, rfl, by decide +kernel, rfl, by decide +kernel, by decide +kernel⟩
abbrev s__packed : Stmt := (topS 33)
theorem sc__packed : FnScope ["value", "row", "member", "character"] ["value"] (defScope s__packed) := ⟨rfl, rfl, rfl, by decide +kernel, rfl, by decide +kernel, by decide +kernel⟩
abbrev s_unpack : Stmt := (topS 34)
theorem sc_unpack : FnScope ["row", "value", "index"] ["row"] (defScope s_unpack) := ⟨rfl, rfl, rfl, by decide +kernel, rfl, by decide +kernel, by decide +kernel⟩
abbrev s__take_value : Stmt := (topS 35)
theorem sc__take_value : FnScope ["row", "index", "depth", "tag", "number", "after"] ["row", "index", "depth"] (defScope s__take_value) := ⟨rfl, rfl, rfl, by decide +kernel, rfl, by decide +kernel, by decide +kernel⟩
abbrev s__checked_integer : Stmt := (topS 36)
theorem sc__checked_integer : FnScope ["number"] ["number"] (defScope s__checked_integer) := ⟨rfl, rfl, rfl, by decide +kernel, rfl, by decide +kernel, by decide +kernel⟩
abbrev s__take_text : Stmt := (topS 37)
theorem sc__take_text : FnScope ["row", "index", "length", "characters", "at", "byte"] ["row", "index", "length"] (defScope s__take_text) := ⟨rfl, rfl, rfl, by decide +kernel, rfl, by decide +kernel, by decide +kernel⟩
abbrev s__take_members : Stmt := (topS 38)
theorem sc__take_members : FnScope ["row", "index", "length", "depth", "members", "_", "member"] ["row", "index", "length", "depth"] (defScope s__take_members) := ⟨rfl, rfl, rfl, by decide +kernel, rfl, by decide +kernel, by decide +kernel⟩
abbrev s_checksum : Stmt := (topS 41)
theorem sc_checksum : FnScope ["row", "start", "first", "second", "byte"] ["row", "start"] (defScope s_checksum) := ⟨rfl, rfl, rfl, by decide +kernel, rfl, by decide +kernel, by decide +kernel⟩
abbrev s_check_bytes : Stmt := (topS 42)
theorem sc_check_bytes : FnScope ["pair", "first", "second"] ["pair"] (defScope s_check_bytes) := ⟨rfl, rfl, rfl, by decide +kernel, rfl, by decide +kernel, by decide +kernel⟩
abbrev s_make_sector : Stmt := (topS 48)
theorem sc_make_sector : FnScope ["kind", "payload", "body"] ["kind", "payload"] (defScope s_make_sector) := ⟨rfl, rfl, rfl, by decide +kernel, rfl, by decide +kernel, by decide +kernel⟩
abbrev s_read_sector : Stmt := (topS 49)
theorem sc_read_sector : FnScope ["sector", "body", "kind", "length", "filling"] ["sector"] (defScope s_read_sector) := ⟨rfl, rfl, rfl, by decide +kernel, rfl, by decide +kernel, by decide +kernel⟩
abbrev s_parts_needed : Stmt := (topS 55)
theorem sc_parts_needed : FnScope ["record"] ["record"] (defScope s_parts_needed) := ⟨rfl, rfl, rfl, by decide +kernel, rfl, by decide +kernel, by decide +kernel⟩
abbrev s__piece_count : Stmt := (topS 56)
theorem sc__piece_count : FnScope ["packed"] ["packed"] (defScope s__piece_count) := ⟨rfl, rfl, rfl, by decide +kernel, rfl, by decide +kernel, by decide +kernel⟩
abbrev s__sector_at : Stmt := (topS 57)
theorem sc__sector_at : FnScope ["sectors", "index"] ["sectors", "index"] (defScope s__sector_at) := ⟨rfl, rfl, rfl, by decide +kernel, rfl, by decide +kernel, by decide +kernel⟩
abbrev s__newest_head : Stmt := (topS 58)
theorem sc__newest_head : FnScope ["sectors", "newest", "index", "found", "kind", "payload", "head"] ["sectors"] (defScope s__newest_head) := ⟨rfl, rfl, rfl, by decide +kernel, rfl, by decide +kernel, by decide +kernel⟩
abbrev s__read_part : Stmt := (topS 59)
theorem sc__read_part : FnScope ["sector", "found", "payload", "numbers", "index", "_", "number"] ["sector"] (defScope s__read_part) := ⟨rfl, rfl, rfl, by decide +kernel, rfl, by decide +kernel, by decide +kernel⟩
abbrev s__read_record : Stmt := (topS 60)
theorem sc__read_record : FnScope ["sectors", "at", "generation", "record", "least_boot", "found", "boot", "count", "packed", "part"] ["sectors", "at", "generation", "record", "least_boot"] (defScope s__read_record) := ⟨rfl, rfl, rfl, by decide +kernel, rfl, by decide +kernel, by decide +kernel⟩
abbrev s__part_sector : Stmt := (topS 61)
theorem sc__part_sector : FnScope ["generation", "boot", "record", "part", "packed", "payload", "number"] ["generation", "boot", "record", "part", "packed"] (defScope s__part_sector) := ⟨rfl, rfl, rfl, by decide +kernel, rfl, by decide +kernel, by decide +kernel⟩
abbrev s__part_writes : Stmt := (topS 62)
theorem sc__part_writes : FnScope ["rows", "at", "generation", "boot", "record", "steps", "packed", "part"] ["rows", "at", "generation", "boot", "record"] (defScope s__part_writes) := ⟨rfl, rfl, rfl, by decide +kernel, rfl, by decide +kernel, by decide +kernel⟩
abbrev s_Journal___init__ : Stmt := (inClass (topS 63) 0)
theorem sc_Journal___init__ : FnScope ["self", "sectors", "boot", "generation", "start", "head_boot"] ["self", "sectors", "boot"] (defScope s_Journal___init__) := ⟨rfl, rfl, rfl, by decide +kernel, rfl, by decide +kernel, by decide +kernel⟩
abbrev s_Journal__read_records : Stmt := (inClass (topS 63) 1)
theorem sc_Journal__read_records : FnScope ["self", "sectors", "least_boot", "found", "packed", "after"] ["self", "sectors", "least_boot"] (defScope s_Journal__read_records) := ⟨rfl, rfl, rfl, by decide +kernel, rfl, by decide +kernel, by decide +kernel⟩
abbrev s_Journal_records : Stmt := (inClass (topS 63) 2)
theorem sc_Journal_records : FnScope ["self"] ["self"] (defScope s_Journal_records) := ⟨rfl, rfl, rfl, by decide +kernel, rfl, by decide +kernel, by decide +kernel⟩
abbrev s_Journal_append : Stmt := (inClass (topS 63) 4)
theorem sc_Journal_append : FnScope ["self", "records", "rows", "after", "steps", "record"] ["self", "records"] (defScope s_Journal_append) := ⟨rfl, rfl, rfl, by decide +kernel, rfl, by decide +kernel, by decide +kernel⟩
abbrev s_Journal_rewrite : Stmt := (inClass (topS 63) 5)
theorem sc_Journal_rewrite : FnScope ["self", "records", "rows", "needed", "start", "generation", "steps", "head", "record", "packed"] ["self", "records"] (defScope s_Journal_rewrite) := ⟨rfl, rfl, rfl, by decide +kernel, rfl, by decide +kernel, by decide +kernel⟩
abbrev s__law_is_integer : Stmt := (topS 65)
theorem sc__law_is_integer : FnScope ["actual"] ["actual"] (defScope s__law_is_integer) := ⟨rfl, rfl, rfl, by decide +kernel, rfl, by decide +kernel, by decide +kernel⟩
abbrev s__law_draws : Stmt := (topS 66)
theorem sc__law_draws : FnScope ["script", "many", "draws", "mixed", "k", "cell", "rest", "turn"] ["script", "many"] (defScope s__law_draws) := ⟨rfl, rfl, rfl, by decide +kernel, rfl, by decide +kernel, by decide +kernel⟩
abbrev s__law_record : Stmt := (topS 67)
theorem sc__law_record : FnScope ["draws", "kind", "word", "draw"] ["draws"] (defScope s__law_record) := ⟨rfl, rfl, rfl, by decide +kernel, rfl, by decide +kernel, by decide +kernel⟩
abbrev s__law_write : Stmt := (topS 68)
theorem sc__law_write : FnScope ["disk", "index", "sector", "grown"] ["disk", "index", "sector"] (defScope s__law_write) := ⟨rfl, rfl, rfl, by decide +kernel, rfl, by decide +kernel, by decide +kernel⟩
abbrev s__law_step : Stmt := (topS 71)
theorem sc__law_step : FnScope ["disk", "unsafe", "step", "index", "contents", "kept", "found"] ["disk", "unsafe", "step"] (defScope s__law_step) := ⟨rfl, rfl, rfl, by decide +kernel, rfl, by decide +kernel, by decide +kernel⟩
abbrev s__law_fall : Stmt := (topS 72)
theorem sc__law_fall : FnScope ["disk", "unsafe", "draws", "left", "k", "index", "contents", "choice"] ["disk", "unsafe", "draws"] (defScope s__law_fall) := ⟨rfl, rfl, rfl, by decide +kernel, rfl, by decide +kernel, by decide +kernel⟩
abbrev s__law_run_steps : Stmt := (topS 73)
theorem sc__law_run_steps : FnScope ["disk", "steps", "count", "unsafe", "step"] ["disk", "steps", "count"] (defScope s__law_run_steps) := ⟨rfl, rfl, rfl, by decide +kernel, rfl, by decide +kernel, by decide +kernel⟩
abbrev s__law_room : Stmt := (topS 74)
theorem sc__law_room : FnScope ["records", "needed", "record"] ["records"] (defScope s__law_room) := ⟨rfl, rfl, rfl, by decide +kernel, rfl, by decide +kernel, by decide +kernel⟩
abbrev s__law_inside : Stmt := (topS 75)
theorem sc__law_inside : FnScope ["steps", "most", "step"] ["steps", "most"] (defScope s__law_inside) := ⟨rfl, rfl, rfl, by decide +kernel, rfl, by decide +kernel, by decide +kernel⟩
abbrev s_law : Stmt := (topS 76)
theorem sc_law : FnScope ["script", "draws", "boot", "disk", "journal", "most", "turn", "part", "added", "steps", "count", "left", "k"] ["script"] (defScope s_law) := ⟨rfl, rfl, rfl, by decide +kernel, rfl, by decide +kernel, by decide +kernel⟩

structure TX (K : PySem.W.Frag) (mg : Str → Option Value) where
  a_MajordomoError : Addr
  g_MajordomoError : mg "MajordomoError" = some (.ref a_MajordomoError)
  x_MajordomoError : PySem.W.excIn K a_MajordomoError [.type "ValueError", .type "Exception", .type "BaseException", .type "object"] "ValueError.__new__" = true
  k_MajordomoError : PySem.W.keepIn K (.ref a_MajordomoError) = true
  s_MajordomoError : PySem.W.subIn K (.ref a_MajordomoError) (.type "BaseException") = some true
  t_MajordomoError : PySem.W.typeIn K (.ref a_MajordomoError) = some (.type "type")
  a_CodecError : Addr
  g_CodecError : mg "CodecError" = some (.ref a_CodecError)
  x_CodecError : PySem.W.excIn K a_CodecError [.type "ValueError", .type "Exception", .type "BaseException", .type "object"] "ValueError.__new__" = true
  k_CodecError : PySem.W.keepIn K (.ref a_CodecError) = true
  s_CodecError : PySem.W.subIn K (.ref a_CodecError) (.type "BaseException") = some true
  t_CodecError : PySem.W.typeIn K (.ref a_CodecError) = some (.type "type")
  a_Truncated : Addr
  g_Truncated : mg "Truncated" = some (.ref a_Truncated)
  x_Truncated : PySem.W.excIn K a_Truncated [.type "ValueError", .type "Exception", .type "BaseException", .type "object"] "ValueError.__new__" = true
  k_Truncated : PySem.W.keepIn K (.ref a_Truncated) = true
  s_Truncated : PySem.W.subIn K (.ref a_Truncated) (.type "BaseException") = some true
  t_Truncated : PySem.W.typeIn K (.ref a_Truncated) = some (.type "type")
  a_Malformed : Addr
  g_Malformed : mg "Malformed" = some (.ref a_Malformed)
  x_Malformed : PySem.W.excIn K a_Malformed [.type "ValueError", .type "Exception", .type "BaseException", .type "object"] "ValueError.__new__" = true
  k_Malformed : PySem.W.keepIn K (.ref a_Malformed) = true
  s_Malformed : PySem.W.subIn K (.ref a_Malformed) (.type "BaseException") = some true
  t_Malformed : PySem.W.typeIn K (.ref a_Malformed) = some (.type "type")
  a_Damaged : Addr
  g_Damaged : mg "Damaged" = some (.ref a_Damaged)
  x_Damaged : PySem.W.excIn K a_Damaged [.type "ValueError", .type "Exception", .type "BaseException", .type "object"] "ValueError.__new__" = true
  k_Damaged : PySem.W.keepIn K (.ref a_Damaged) = true
  s_Damaged : PySem.W.subIn K (.ref a_Damaged) (.type "BaseException") = some true
  t_Damaged : PySem.W.typeIn K (.ref a_Damaged) = some (.type "type")
  a_NotAValue : Addr
  g_NotAValue : mg "NotAValue" = some (.ref a_NotAValue)
  x_NotAValue : PySem.W.excIn K a_NotAValue [.type "ValueError", .type "Exception", .type "BaseException", .type "object"] "ValueError.__new__" = true
  k_NotAValue : PySem.W.keepIn K (.ref a_NotAValue) = true
  s_NotAValue : PySem.W.subIn K (.ref a_NotAValue) (.type "BaseException") = some true
  t_NotAValue : PySem.W.typeIn K (.ref a_NotAValue) = some (.type "type")
  a_Journal : Addr
  a_has_plain_characters : Addr
  d_has_plain_characters : FuncData
  F_has_plain_characters : Fun K "has_plain_characters" "has_plain_characters" s_has_plain_characters a_has_plain_characters d_has_plain_characters
  b_has_plain_characters : Binds K d_has_plain_characters ["text"] []
  g_has_plain_characters : mg "has_plain_characters" = some (.ref a_has_plain_characters)
  a_put_number : Addr
  d_put_number : FuncData
  F_put_number : Fun K "put_number" "put_number" s_put_number a_put_number d_put_number
  b_put_number : Binds K d_put_number ["number"] []
  g_put_number : mg "put_number" = some (.ref a_put_number)
  a_take_number : Addr
  d_take_number : FuncData
  F_take_number : Fun K "take_number" "take_number" s_take_number a_take_number d_take_number
  b_take_number : Binds K d_take_number ["row", "index"] []
  g_take_number : mg "take_number" = some (.ref a_take_number)
  a_is_value : Addr
  d_is_value : FuncData
  F_is_value : Fun K "is_value" "is_value" s_is_value a_is_value d_is_value
  b_is_value : Binds K d_is_value ["value"] []
  g_is_value : mg "is_value" = some (.ref a_is_value)
  a__is_value_within : Addr
  d__is_value_within : FuncData
  F__is_value_within : Fun K "_is_value_within" "_is_value_within" s__is_value_within a__is_value_within d__is_value_within
  b__is_value_within : Binds K d__is_value_within ["value", "depth"] []
  g__is_value_within : mg "_is_value_within" = some (.ref a__is_value_within)
  a_pack : Addr
  d_pack : FuncData
  F_pack : Fun K "pack" "pack" s_pack a_pack d_pack
  b_pack : Binds K d_pack ["value"] []
  g_pack : mg "pack" = some (.ref a_pack)
  a__packed : Addr
  d__packed : FuncData
  F__packed : Fun K "_packed" "_packed" s__packed a__packed d__packed
  b__packed : Binds K d__packed ["value"] []
  g__packed : mg "_packed" = some (.ref a__packed)
  a_unpack : Addr
  d_unpack : FuncData
  F_unpack : Fun K "unpack" "unpack" s_unpack a_unpack d_unpack
  b_unpack : Binds K d_unpack ["row"] []
  g_unpack : mg "unpack" = some (.ref a_unpack)
  a__take_value : Addr
  d__take_value : FuncData
  F__take_value : Fun K "_take_value" "_take_value" s__take_value a__take_value d__take_value
  b__take_value : Binds K d__take_value ["row", "index", "depth"] []
  g__take_value : mg "_take_value" = some (.ref a__take_value)
  a__checked_integer : Addr
  d__checked_integer : FuncData
  F__checked_integer : Fun K "_checked_integer" "_checked_integer" s__checked_integer a__checked_integer d__checked_integer
  b__checked_integer : Binds K d__checked_integer ["number"] []
  g__checked_integer : mg "_checked_integer" = some (.ref a__checked_integer)
  a__take_text : Addr
  d__take_text : FuncData
  F__take_text : Fun K "_take_text" "_take_text" s__take_text a__take_text d__take_text
  b__take_text : Binds K d__take_text ["row", "index", "length"] []
  g__take_text : mg "_take_text" = some (.ref a__take_text)
  a__take_members : Addr
  d__take_members : FuncData
  F__take_members : Fun K "_take_members" "_take_members" s__take_members a__take_members d__take_members
  b__take_members : Binds K d__take_members ["row", "index", "length", "depth"] []
  g__take_members : mg "_take_members" = some (.ref a__take_members)
  a_checksum : Addr
  d_checksum : FuncData
  da_checksum_0 : Addr
  dq_checksum_0 : ∀ H, SqT K H da_checksum_0 [(.int 1), (.int 1)]
  FD_checksum : FunD K "checksum" "checksum" (defArgs s_checksum) (defBody s_checksum) (defScope s_checksum) [.ref da_checksum_0] [] a_checksum d_checksum
  bD_checksum_1 : ∃ ds, Vals (([.ref da_checksum_0] : List V).drop 0) ds ∧ Binds K d_checksum ["row", "start"] ds
  bD_checksum_2 : ∃ ds, Vals (([.ref da_checksum_0] : List V).drop 1) ds ∧ Binds K d_checksum ["row", "start"] ds
  g_checksum : mg "checksum" = some (.ref a_checksum)
  a_check_bytes : Addr
  d_check_bytes : FuncData
  F_check_bytes : Fun K "check_bytes" "check_bytes" s_check_bytes a_check_bytes d_check_bytes
  b_check_bytes : Binds K d_check_bytes ["pair"] []
  g_check_bytes : mg "check_bytes" = some (.ref a_check_bytes)
  a_make_sector : Addr
  d_make_sector : FuncData
  F_make_sector : Fun K "make_sector" "make_sector" s_make_sector a_make_sector d_make_sector
  b_make_sector : Binds K d_make_sector ["kind", "payload"] []
  g_make_sector : mg "make_sector" = some (.ref a_make_sector)
  a_read_sector : Addr
  d_read_sector : FuncData
  F_read_sector : Fun K "read_sector" "read_sector" s_read_sector a_read_sector d_read_sector
  b_read_sector : Binds K d_read_sector ["sector"] []
  g_read_sector : mg "read_sector" = some (.ref a_read_sector)
  a_parts_needed : Addr
  d_parts_needed : FuncData
  F_parts_needed : Fun K "parts_needed" "parts_needed" s_parts_needed a_parts_needed d_parts_needed
  b_parts_needed : Binds K d_parts_needed ["record"] []
  g_parts_needed : mg "parts_needed" = some (.ref a_parts_needed)
  a__piece_count : Addr
  d__piece_count : FuncData
  F__piece_count : Fun K "_piece_count" "_piece_count" s__piece_count a__piece_count d__piece_count
  b__piece_count : Binds K d__piece_count ["packed"] []
  g__piece_count : mg "_piece_count" = some (.ref a__piece_count)
  a__sector_at : Addr
  d__sector_at : FuncData
  F__sector_at : Fun K "_sector_at" "_sector_at" s__sector_at a__sector_at d__sector_at
  b__sector_at : Binds K d__sector_at ["sectors", "index"] []
  g__sector_at : mg "_sector_at" = some (.ref a__sector_at)
  a__newest_head : Addr
  d__newest_head : FuncData
  F__newest_head : Fun K "_newest_head" "_newest_head" s__newest_head a__newest_head d__newest_head
  b__newest_head : Binds K d__newest_head ["sectors"] []
  g__newest_head : mg "_newest_head" = some (.ref a__newest_head)
  a__read_part : Addr
  d__read_part : FuncData
  F__read_part : Fun K "_read_part" "_read_part" s__read_part a__read_part d__read_part
  b__read_part : Binds K d__read_part ["sector"] []
  g__read_part : mg "_read_part" = some (.ref a__read_part)
  a__read_record : Addr
  d__read_record : FuncData
  F__read_record : Fun K "_read_record" "_read_record" s__read_record a__read_record d__read_record
  b__read_record : Binds K d__read_record ["sectors", "at", "generation", "record", "least_boot"] []
  g__read_record : mg "_read_record" = some (.ref a__read_record)
  a__part_sector : Addr
  d__part_sector : FuncData
  F__part_sector : Fun K "_part_sector" "_part_sector" s__part_sector a__part_sector d__part_sector
  b__part_sector : Binds K d__part_sector ["generation", "boot", "record", "part", "packed"] []
  g__part_sector : mg "_part_sector" = some (.ref a__part_sector)
  a__part_writes : Addr
  d__part_writes : FuncData
  F__part_writes : Fun K "_part_writes" "_part_writes" s__part_writes a__part_writes d__part_writes
  b__part_writes : Binds K d__part_writes ["rows", "at", "generation", "boot", "record"] []
  g__part_writes : mg "_part_writes" = some (.ref a__part_writes)
  a_Journal___init__ : Addr
  d_Journal___init__ : FuncData
  F_Journal___init__ : Fun K "__init__" "Journal.__init__" s_Journal___init__ a_Journal___init__ d_Journal___init__
  b_Journal___init__ : Binds K d_Journal___init__ ["self", "sectors", "boot"] []
  a_Journal__read_records : Addr
  d_Journal__read_records : FuncData
  F_Journal__read_records : Fun K "_read_records" "Journal._read_records" s_Journal__read_records a_Journal__read_records d_Journal__read_records
  b_Journal__read_records : Binds K d_Journal__read_records ["self", "sectors", "least_boot"] []
  m_Journal__read_records : Meth K a_Journal "_read_records" a_Journal__read_records
  a_Journal_records : Addr
  d_Journal_records : FuncData
  F_Journal_records : Fun K "records" "Journal.records" s_Journal_records a_Journal_records d_Journal_records
  b_Journal_records : Binds K d_Journal_records ["self"] []
  m_Journal_records : Meth K a_Journal "records" a_Journal_records
  a_Journal_append : Addr
  d_Journal_append : FuncData
  F_Journal_append : Fun K "append" "Journal.append" s_Journal_append a_Journal_append d_Journal_append
  b_Journal_append : Binds K d_Journal_append ["self", "records"] []
  m_Journal_append : Meth K a_Journal "append" a_Journal_append
  a_Journal_rewrite : Addr
  d_Journal_rewrite : FuncData
  F_Journal_rewrite : Fun K "rewrite" "Journal.rewrite" s_Journal_rewrite a_Journal_rewrite d_Journal_rewrite
  b_Journal_rewrite : Binds K d_Journal_rewrite ["self", "records"] []
  m_Journal_rewrite : Meth K a_Journal "rewrite" a_Journal_rewrite
  a__law_is_integer : Addr
  d__law_is_integer : FuncData
  F__law_is_integer : Fun K "_law_is_integer" "_law_is_integer" s__law_is_integer a__law_is_integer d__law_is_integer
  b__law_is_integer : Binds K d__law_is_integer ["actual"] []
  g__law_is_integer : mg "_law_is_integer" = some (.ref a__law_is_integer)
  a__law_draws : Addr
  d__law_draws : FuncData
  F__law_draws : Fun K "_law_draws" "_law_draws" s__law_draws a__law_draws d__law_draws
  b__law_draws : Binds K d__law_draws ["script", "many"] []
  g__law_draws : mg "_law_draws" = some (.ref a__law_draws)
  a__law_record : Addr
  d__law_record : FuncData
  F__law_record : Fun K "_law_record" "_law_record" s__law_record a__law_record d__law_record
  b__law_record : Binds K d__law_record ["draws"] []
  g__law_record : mg "_law_record" = some (.ref a__law_record)
  a__law_write : Addr
  d__law_write : FuncData
  F__law_write : Fun K "_law_write" "_law_write" s__law_write a__law_write d__law_write
  b__law_write : Binds K d__law_write ["disk", "index", "sector"] []
  g__law_write : mg "_law_write" = some (.ref a__law_write)
  a__law_step : Addr
  d__law_step : FuncData
  F__law_step : Fun K "_law_step" "_law_step" s__law_step a__law_step d__law_step
  b__law_step : Binds K d__law_step ["disk", "unsafe", "step"] []
  g__law_step : mg "_law_step" = some (.ref a__law_step)
  a__law_fall : Addr
  d__law_fall : FuncData
  F__law_fall : Fun K "_law_fall" "_law_fall" s__law_fall a__law_fall d__law_fall
  b__law_fall : Binds K d__law_fall ["disk", "unsafe", "draws"] []
  g__law_fall : mg "_law_fall" = some (.ref a__law_fall)
  a__law_run_steps : Addr
  d__law_run_steps : FuncData
  F__law_run_steps : Fun K "_law_run_steps" "_law_run_steps" s__law_run_steps a__law_run_steps d__law_run_steps
  b__law_run_steps : Binds K d__law_run_steps ["disk", "steps", "count"] []
  g__law_run_steps : mg "_law_run_steps" = some (.ref a__law_run_steps)
  a__law_room : Addr
  d__law_room : FuncData
  F__law_room : Fun K "_law_room" "_law_room" s__law_room a__law_room d__law_room
  b__law_room : Binds K d__law_room ["records"] []
  g__law_room : mg "_law_room" = some (.ref a__law_room)
  a__law_inside : Addr
  d__law_inside : FuncData
  F__law_inside : Fun K "_law_inside" "_law_inside" s__law_inside a__law_inside d__law_inside
  b__law_inside : Binds K d__law_inside ["steps", "most"] []
  g__law_inside : mg "_law_inside" = some (.ref a__law_inside)
  a_law : Addr
  d_law : FuncData
  F_law : Fun K "law" "law" s_law a_law d_law
  b_law : Binds K d_law ["script"] []
  g_law : mg "law" = some (.ref a_law)
  K_Journal : Cls K a_Journal
  g_Journal : mg "Journal" = some (.ref a_Journal)
  M_Journal : Mk K a_Journal a_Journal___init__
  na_Journal__boot : NoAttr K a_Journal "_boot"
  na_Journal__generation : NoAttr K a_Journal "_generation"
  na_Journal__start : NoAttr K a_Journal "_start"
  na_Journal__used : NoAttr K a_Journal "_used"
  na_Journal__records : NoAttr K a_Journal "_records"
  t_SPACE : Tok
  c_SPACE : mg "SPACE" = some (.int 32 t_SPACE)
  t_PERCENT : Tok
  c_PERCENT : mg "PERCENT" = some (.int 37 t_PERCENT)
  t_TILDE : Tok
  c_TILDE : mg "TILDE" = some (.int 126 t_TILDE)
  t_MOST_BYTES : Tok
  c_MOST_BYTES : mg "MOST_BYTES" = some (.int 500 t_MOST_BYTES)
  t_MOST_BITS : Tok
  c_MOST_BITS : mg "MOST_BITS" = some (.int 3000 t_MOST_BITS)
  t_MOST_LENGTH : Tok
  c_MOST_LENGTH : mg "MOST_LENGTH" = some (.int 60000 t_MOST_LENGTH)
  t_MOST_DEPTH : Tok
  c_MOST_DEPTH : mg "MOST_DEPTH" = some (.int 20 t_MOST_DEPTH)
  t_FALSE_TAG : Tok
  c_FALSE_TAG : mg "FALSE_TAG" = some (.int 1 t_FALSE_TAG)
  t_TRUE_TAG : Tok
  c_TRUE_TAG : mg "TRUE_TAG" = some (.int 2 t_TRUE_TAG)
  t_NATURAL_TAG : Tok
  c_NATURAL_TAG : mg "NATURAL_TAG" = some (.int 3 t_NATURAL_TAG)
  t_NEGATIVE_TAG : Tok
  c_NEGATIVE_TAG : mg "NEGATIVE_TAG" = some (.int 4 t_NEGATIVE_TAG)
  t_TEXT_TAG : Tok
  c_TEXT_TAG : mg "TEXT_TAG" = some (.int 5 t_TEXT_TAG)
  t_TUPLE_TAG : Tok
  c_TUPLE_TAG : mg "TUPLE_TAG" = some (.int 6 t_TUPLE_TAG)
  ca_CONSTANTS : Addr
  c_CONSTANTS : mg "CONSTANTS" = some (.ref ca_CONSTANTS)
  q_CONSTANTS : ∀ H, SqT K H ca_CONSTANTS [.non, (.bl false), (.bl true)]
  t_CHARACTERS : Tok
  c_CHARACTERS : mg "CHARACTERS" = some (.str " !\"#$ &'()*+,-./0123456789:;<=>?@ABCDEFGHIJKLMNOPQRSTUVWXYZ[\\]^_`abcdefghijklmnopqrstuvwxyz{|}~" t_CHARACTERS)
  t_PERCENT_BYTE : Tok
  c_PERCENT_BYTE : mg "PERCENT_BYTE" = some (.int 5 t_PERCENT_BYTE)
  t_MODULUS : Tok
  c_MODULUS : mg "MODULUS" = some (.int 65521 t_MODULUS)
  t_PAYLOAD : Tok
  c_PAYLOAD : mg "PAYLOAD" = some (.int 58 t_PAYLOAD)
  ca_BLANK : Addr
  c_BLANK : mg "BLANK" = some (.ref ca_BLANK)
  q_BLANK : ∀ H, SqT K H ca_BLANK [(.int 0), (.int 0), (.int 0), (.int 0), (.int 0), (.int 0), (.int 0), (.int 0), (.int 0), (.int 0), (.int 0), (.int 0), (.int 0), (.int 0), (.int 0), (.int 0), (.int 0), (.int 0), (.int 0), (.int 0), (.int 0), (.int 0), (.int 0), (.int 0), (.int 0), (.int 0), (.int 0), (.int 0), (.int 0), (.int 0), (.int 0), (.int 0), (.int 0), (.int 0), (.int 0), (.int 0), (.int 0), (.int 0), (.int 0), (.int 0), (.int 0), (.int 0), (.int 0), (.int 0), (.int 0), (.int 0), (.int 0), (.int 0), (.int 0), (.int 0), (.int 0), (.int 0), (.int 0), (.int 0), (.int 0), (.int 0), (.int 0), (.int 0), (.int 0), (.int 0), (.int 0), (.int 0), (.int 0), (.int 0)]
  t_CHECK_BYTES : Tok
  c_CHECK_BYTES : mg "CHECK_BYTES" = some (.int 4 t_CHECK_BYTES)
  t_MOST_KIND : Tok
  c_MOST_KIND : mg "MOST_KIND" = some (.int 9 t_MOST_KIND)
  t_HEAD_KIND : Tok
  c_HEAD_KIND : mg "HEAD_KIND" = some (.int 1 t_HEAD_KIND)
  t_PART_KIND : Tok
  c_PART_KIND : mg "PART_KIND" = some (.int 2 t_PART_KIND)
  t_PIECE : Tok
  c_PIECE : mg "PIECE" = some (.int 40 t_PIECE)
  t_FIRST_START : Tok
  c_FIRST_START : mg "FIRST_START" = some (.int 2 t_FIRST_START)
  n_range : mg "range" = none
  n_min : mg "min" = none
  n_len : mg "len" = none
  n_ord : mg "ord" = none
  n_isinstance : mg "isinstance" = none
  n_bool : mg "bool" = none
  n_int : mg "int" = none
  n_str : mg "str" = none
  n_tuple : mg "tuple" = none
  n_abs : mg "abs" = none
  n_list : mg "list" = none
  n_sum : mg "sum" = none
  n_max : mg "max" = none

theorem ne_Journal__boot__generation : (Str.ofString "_boot" == Str.ofString "_generation") = false := by decide +kernel
theorem ne_Journal__boot__generation_p : ¬ (Str.ofString "_boot" = Str.ofString "_generation") := by decide +kernel
theorem ne_Journal__boot__start : (Str.ofString "_boot" == Str.ofString "_start") = false := by decide +kernel
theorem ne_Journal__boot__start_p : ¬ (Str.ofString "_boot" = Str.ofString "_start") := by decide +kernel
theorem ne_Journal__boot__used : (Str.ofString "_boot" == Str.ofString "_used") = false := by decide +kernel
theorem ne_Journal__boot__used_p : ¬ (Str.ofString "_boot" = Str.ofString "_used") := by decide +kernel
theorem ne_Journal__boot__records : (Str.ofString "_boot" == Str.ofString "_records") = false := by decide +kernel
theorem ne_Journal__boot__records_p : ¬ (Str.ofString "_boot" = Str.ofString "_records") := by decide +kernel
theorem ne_Journal__generation__boot : (Str.ofString "_generation" == Str.ofString "_boot") = false := by decide +kernel
theorem ne_Journal__generation__boot_p : ¬ (Str.ofString "_generation" = Str.ofString "_boot") := by decide +kernel
theorem ne_Journal__generation__start : (Str.ofString "_generation" == Str.ofString "_start") = false := by decide +kernel
theorem ne_Journal__generation__start_p : ¬ (Str.ofString "_generation" = Str.ofString "_start") := by decide +kernel
theorem ne_Journal__generation__used : (Str.ofString "_generation" == Str.ofString "_used") = false := by decide +kernel
theorem ne_Journal__generation__used_p : ¬ (Str.ofString "_generation" = Str.ofString "_used") := by decide +kernel
theorem ne_Journal__generation__records : (Str.ofString "_generation" == Str.ofString "_records") = false := by decide +kernel
theorem ne_Journal__generation__records_p : ¬ (Str.ofString "_generation" = Str.ofString "_records") := by decide +kernel
theorem ne_Journal__start__boot : (Str.ofString "_start" == Str.ofString "_boot") = false := by decide +kernel
theorem ne_Journal__start__boot_p : ¬ (Str.ofString "_start" = Str.ofString "_boot") := by decide +kernel
theorem ne_Journal__start__generation : (Str.ofString "_start" == Str.ofString "_generation") = false := by decide +kernel
theorem ne_Journal__start__generation_p : ¬ (Str.ofString "_start" = Str.ofString "_generation") := by decide +kernel
theorem ne_Journal__start__used : (Str.ofString "_start" == Str.ofString "_used") = false := by decide +kernel
theorem ne_Journal__start__used_p : ¬ (Str.ofString "_start" = Str.ofString "_used") := by decide +kernel
theorem ne_Journal__start__records : (Str.ofString "_start" == Str.ofString "_records") = false := by decide +kernel
theorem ne_Journal__start__records_p : ¬ (Str.ofString "_start" = Str.ofString "_records") := by decide +kernel
theorem ne_Journal__used__boot : (Str.ofString "_used" == Str.ofString "_boot") = false := by decide +kernel
theorem ne_Journal__used__boot_p : ¬ (Str.ofString "_used" = Str.ofString "_boot") := by decide +kernel
theorem ne_Journal__used__generation : (Str.ofString "_used" == Str.ofString "_generation") = false := by decide +kernel
theorem ne_Journal__used__generation_p : ¬ (Str.ofString "_used" = Str.ofString "_generation") := by decide +kernel
theorem ne_Journal__used__start : (Str.ofString "_used" == Str.ofString "_start") = false := by decide +kernel
theorem ne_Journal__used__start_p : ¬ (Str.ofString "_used" = Str.ofString "_start") := by decide +kernel
theorem ne_Journal__used__records : (Str.ofString "_used" == Str.ofString "_records") = false := by decide +kernel
theorem ne_Journal__used__records_p : ¬ (Str.ofString "_used" = Str.ofString "_records") := by decide +kernel
theorem ne_Journal__records__boot : (Str.ofString "_records" == Str.ofString "_boot") = false := by decide +kernel
theorem ne_Journal__records__boot_p : ¬ (Str.ofString "_records" = Str.ofString "_boot") := by decide +kernel
theorem ne_Journal__records__generation : (Str.ofString "_records" == Str.ofString "_generation") = false := by decide +kernel
theorem ne_Journal__records__generation_p : ¬ (Str.ofString "_records" = Str.ofString "_generation") := by decide +kernel
theorem ne_Journal__records__start : (Str.ofString "_records" == Str.ofString "_start") = false := by decide +kernel
theorem ne_Journal__records__start_p : ¬ (Str.ofString "_records" = Str.ofString "_start") := by decide +kernel
theorem ne_Journal__records__used : (Str.ofString "_records" == Str.ofString "_used") = false := by decide +kernel
theorem ne_Journal__records__used_p : ¬ (Str.ofString "_records" = Str.ofString "_used") := by decide +kernel
theorem ne_Journal__read_records__boot : (Str.ofString "_read_records" == Str.ofString "_boot") = false := by decide +kernel
theorem ne_Journal__read_records__boot_p : ¬ (Str.ofString "_read_records" = Str.ofString "_boot") := by decide +kernel
theorem ne_Journal__read_records__generation : (Str.ofString "_read_records" == Str.ofString "_generation") = false := by decide +kernel
theorem ne_Journal__read_records__generation_p : ¬ (Str.ofString "_read_records" = Str.ofString "_generation") := by decide +kernel
theorem ne_Journal__read_records__start : (Str.ofString "_read_records" == Str.ofString "_start") = false := by decide +kernel
theorem ne_Journal__read_records__start_p : ¬ (Str.ofString "_read_records" = Str.ofString "_start") := by decide +kernel
theorem ne_Journal__read_records__used : (Str.ofString "_read_records" == Str.ofString "_used") = false := by decide +kernel
theorem ne_Journal__read_records__used_p : ¬ (Str.ofString "_read_records" = Str.ofString "_used") := by decide +kernel
theorem ne_Journal__read_records__records : (Str.ofString "_read_records" == Str.ofString "_records") = false := by decide +kernel
theorem ne_Journal__read_records__records_p : ¬ (Str.ofString "_read_records" = Str.ofString "_records") := by decide +kernel
theorem ne_Journal_records__boot : (Str.ofString "records" == Str.ofString "_boot") = false := by decide +kernel
theorem ne_Journal_records__boot_p : ¬ (Str.ofString "records" = Str.ofString "_boot") := by decide +kernel
theorem ne_Journal_records__generation : (Str.ofString "records" == Str.ofString "_generation") = false := by decide +kernel
theorem ne_Journal_records__generation_p : ¬ (Str.ofString "records" = Str.ofString "_generation") := by decide +kernel
theorem ne_Journal_records__start : (Str.ofString "records" == Str.ofString "_start") = false := by decide +kernel
theorem ne_Journal_records__start_p : ¬ (Str.ofString "records" = Str.ofString "_start") := by decide +kernel
theorem ne_Journal_records__used : (Str.ofString "records" == Str.ofString "_used") = false := by decide +kernel
theorem ne_Journal_records__used_p : ¬ (Str.ofString "records" = Str.ofString "_used") := by decide +kernel
theorem ne_Journal_records__records : (Str.ofString "records" == Str.ofString "_records") = false := by decide +kernel
theorem ne_Journal_records__records_p : ¬ (Str.ofString "records" = Str.ofString "_records") := by decide +kernel
theorem ne_Journal_append__boot : (Str.ofString "append" == Str.ofString "_boot") = false := by decide +kernel
theorem ne_Journal_append__boot_p : ¬ (Str.ofString "append" = Str.ofString "_boot") := by decide +kernel
theorem ne_Journal_append__generation : (Str.ofString "append" == Str.ofString "_generation") = false := by decide +kernel
theorem ne_Journal_append__generation_p : ¬ (Str.ofString "append" = Str.ofString "_generation") := by decide +kernel
theorem ne_Journal_append__start : (Str.ofString "append" == Str.ofString "_start") = false := by decide +kernel
theorem ne_Journal_append__start_p : ¬ (Str.ofString "append" = Str.ofString "_start") := by decide +kernel
theorem ne_Journal_append__used : (Str.ofString "append" == Str.ofString "_used") = false := by decide +kernel
theorem ne_Journal_append__used_p : ¬ (Str.ofString "append" = Str.ofString "_used") := by decide +kernel
theorem ne_Journal_append__records : (Str.ofString "append" == Str.ofString "_records") = false := by decide +kernel
theorem ne_Journal_append__records_p : ¬ (Str.ofString "append" = Str.ofString "_records") := by decide +kernel
theorem ne_Journal_rewrite__boot : (Str.ofString "rewrite" == Str.ofString "_boot") = false := by decide +kernel
theorem ne_Journal_rewrite__boot_p : ¬ (Str.ofString "rewrite" = Str.ofString "_boot") := by decide +kernel
theorem ne_Journal_rewrite__generation : (Str.ofString "rewrite" == Str.ofString "_generation") = false := by decide +kernel
theorem ne_Journal_rewrite__generation_p : ¬ (Str.ofString "rewrite" = Str.ofString "_generation") := by decide +kernel
theorem ne_Journal_rewrite__start : (Str.ofString "rewrite" == Str.ofString "_start") = false := by decide +kernel
theorem ne_Journal_rewrite__start_p : ¬ (Str.ofString "rewrite" = Str.ofString "_start") := by decide +kernel
theorem ne_Journal_rewrite__used : (Str.ofString "rewrite" == Str.ofString "_used") = false := by decide +kernel
theorem ne_Journal_rewrite__used_p : ¬ (Str.ofString "rewrite" = Str.ofString "_used") := by decide +kernel
theorem ne_Journal_rewrite__records : (Str.ofString "rewrite" == Str.ofString "_records") = false := by decide +kernel
theorem ne_Journal_rewrite__records_p : ¬ (Str.ofString "rewrite" = Str.ofString "_records") := by decide +kernel
/-- the attributes of a Journal, in the order in which they are stored -/
def fl_Journal (v0 v1 v2 v3 v4 : V) : List (Str × V) := [("_boot", v0), ("_generation", v1), ("_start", v2), ("_used", v3), ("_records", v4)]
theorem fl_Journal__boot {v0 v1 v2 v3 v4 : V} : (fl_Journal v0 v1 v2 v3 v4).lookup ("_boot" : Str) = some v0 := by unfold fl_Journal; simp [List.lookup, ne_Journal__boot__generation, ne_Journal__boot__start, ne_Journal__boot__used, ne_Journal__boot__records, ne_Journal__generation__boot, ne_Journal__generation__start, ne_Journal__generation__used, ne_Journal__generation__records, ne_Journal__start__boot, ne_Journal__start__generation, ne_Journal__start__used, ne_Journal__start__records, ne_Journal__used__boot, ne_Journal__used__generation, ne_Journal__used__start, ne_Journal__used__records, ne_Journal__records__boot, ne_Journal__records__generation, ne_Journal__records__start, ne_Journal__records__used, ne_Journal__read_records__boot, ne_Journal__read_records__generation, ne_Journal__read_records__start, ne_Journal__read_records__used, ne_Journal__read_records__records, ne_Journal_records__boot, ne_Journal_records__generation, ne_Journal_records__start, ne_Journal_records__used, ne_Journal_records__records, ne_Journal_append__boot, ne_Journal_append__generation, ne_Journal_append__start, ne_Journal_append__used, ne_Journal_append__records, ne_Journal_rewrite__boot, ne_Journal_rewrite__generation, ne_Journal_rewrite__start, ne_Journal_rewrite__used, ne_Journal_rewrite__records, ne_Journal__boot__generation_p, ne_Journal__boot__start_p, ne_Journal__boot__used_p, ne_Journal__boot__records_p, ne_Journal__generation__boot_p, ne_Journal__generation__start_p, ne_Journal__generation__used_p, ne_Journal__generation__records_p, ne_Journal__start__boot_p, ne_Journal__start__generation_p, ne_Journal__start__used_p, ne_Journal__start__records_p, ne_Journal__used__boot_p, ne_Journal__used__generation_p, ne_Journal__used__start_p, ne_Journal__used__records_p, ne_Journal__records__boot_p, ne_Journal__records__generation_p, ne_Journal__records__start_p, ne_Journal__records__used_p, ne_Journal__read_records__boot_p, ne_Journal__read_records__generation_p, ne_Journal__read_records__start_p, ne_Journal__read_records__used_p, ne_Journal__read_records__records_p, ne_Journal_records__boot_p, ne_Journal_records__generation_p, ne_Journal_records__start_p, ne_Journal_records__used_p, ne_Journal_records__records_p, ne_Journal_append__boot_p, ne_Journal_append__generation_p, ne_Journal_append__start_p, ne_Journal_append__used_p, ne_Journal_append__records_p, ne_Journal_rewrite__boot_p, ne_Journal_rewrite__generation_p, ne_Journal_rewrite__start_p, ne_Journal_rewrite__used_p, ne_Journal_rewrite__records_p]
theorem pf_Journal__boot {v0 v1 v2 v3 v4 x : V} : putF ("_boot" : Str) x (fl_Journal v0 v1 v2 v3 v4) = fl_Journal x v1 v2 v3 v4 := by unfold fl_Journal; simp [putF, ne_Journal__boot__generation, ne_Journal__boot__start, ne_Journal__boot__used, ne_Journal__boot__records, ne_Journal__generation__boot, ne_Journal__generation__start, ne_Journal__generation__used, ne_Journal__generation__records, ne_Journal__start__boot, ne_Journal__start__generation, ne_Journal__start__used, ne_Journal__start__records, ne_Journal__used__boot, ne_Journal__used__generation, ne_Journal__used__start, ne_Journal__used__records, ne_Journal__records__boot, ne_Journal__records__generation, ne_Journal__records__start, ne_Journal__records__used, ne_Journal__read_records__boot, ne_Journal__read_records__generation, ne_Journal__read_records__start, ne_Journal__read_records__used, ne_Journal__read_records__records, ne_Journal_records__boot, ne_Journal_records__generation, ne_Journal_records__start, ne_Journal_records__used, ne_Journal_records__records, ne_Journal_append__boot, ne_Journal_append__generation, ne_Journal_append__start, ne_Journal_append__used, ne_Journal_append__records, ne_Journal_rewrite__boot, ne_Journal_rewrite__generation, ne_Journal_rewrite__start, ne_Journal_rewrite__used, ne_Journal_rewrite__records, ne_Journal__boot__generation_p, ne_Journal__boot__start_p, ne_Journal__boot__used_p, ne_Journal__boot__records_p, ne_Journal__generation__boot_p, ne_Journal__generation__start_p, ne_Journal__generation__used_p, ne_Journal__generation__records_p, ne_Journal__start__boot_p, ne_Journal__start__generation_p, ne_Journal__start__used_p, ne_Journal__start__records_p, ne_Journal__used__boot_p, ne_Journal__used__generation_p, ne_Journal__used__start_p, ne_Journal__used__records_p, ne_Journal__records__boot_p, ne_Journal__records__generation_p, ne_Journal__records__start_p, ne_Journal__records__used_p, ne_Journal__read_records__boot_p, ne_Journal__read_records__generation_p, ne_Journal__read_records__start_p, ne_Journal__read_records__used_p, ne_Journal__read_records__records_p, ne_Journal_records__boot_p, ne_Journal_records__generation_p, ne_Journal_records__start_p, ne_Journal_records__used_p, ne_Journal_records__records_p, ne_Journal_append__boot_p, ne_Journal_append__generation_p, ne_Journal_append__start_p, ne_Journal_append__used_p, ne_Journal_append__records_p, ne_Journal_rewrite__boot_p, ne_Journal_rewrite__generation_p, ne_Journal_rewrite__start_p, ne_Journal_rewrite__used_p, ne_Journal_rewrite__records_p]
theorem fl_Journal__generation {v0 v1 v2 v3 v4 : V} : (fl_Journal v0 v1 v2 v3 v4).lookup ("_generation" : Str) = some v1 := by unfold fl_Journal; simp [List.lookup, ne_Journal__boot__generation, ne_Journal__boot__start, ne_Journal__boot__used, ne_Journal__boot__records, ne_Journal__generation__boot, ne_Journal__generation__start, ne_Journal__generation__used, ne_Journal__generation__records, ne_Journal__start__boot, ne_Journal__start__generation, ne_Journal__start__used, ne_Journal__start__records, ne_Journal__used__boot, ne_Journal__used__generation, ne_Journal__used__start, ne_Journal__used__records, ne_Journal__records__boot, ne_Journal__records__generation, ne_Journal__records__start, ne_Journal__records__used, ne_Journal__read_records__boot, ne_Journal__read_records__generation, ne_Journal__read_records__start, ne_Journal__read_records__used, ne_Journal__read_records__records, ne_Journal_records__boot, ne_Journal_records__generation, ne_Journal_records__start, ne_Journal_records__used, ne_Journal_records__records, ne_Journal_append__boot, ne_Journal_append__generation, ne_Journal_append__start, ne_Journal_append__used, ne_Journal_append__records, ne_Journal_rewrite__boot, ne_Journal_rewrite__generation, ne_Journal_rewrite__start, ne_Journal_rewrite__used, ne_Journal_rewrite__records, ne_Journal__boot__generation_p, ne_Journal__boot__start_p, ne_Journal__boot__used_p, ne_Journal__boot__records_p, ne_Journal__generation__boot_p, ne_Journal__generation__start_p, ne_Journal__generation__used_p, ne_Journal__generation__records_p, ne_Journal__start__boot_p, ne_Journal__start__generation_p, ne_Journal__start__used_p, ne_Journal__start__records_p, ne_Journal__used__boot_p, ne_Journal__used__generation_p, ne_Journal__used__start_p, ne_Journal__used__records_p, ne_Journal__records__boot_p, ne_Journal__records__generation_p, ne_Journal__records__start_p, ne_Journal__records__used_p, ne_Journal__read_records__boot_p, ne_Journal__read_records__generation_p, ne_Journal__read_records__start_p, ne_Journal__read_records__used_p, ne_Journal__read_records__records_p, ne_Journal_records__boot_p, ne_Journal_records__generation_p, ne_Journal_records__start_p, ne_Journal_records__used_p, ne_Journal_records__records_p, ne_Journal_append__boot_p, ne_Journal_append__generation_p, ne_Journal_append__start_p, ne_Journal_append__used_p, ne_Journal_append__records_p, ne_Journal_rewrite__boot_p, ne_Journal_rewrite__generation_p, ne_Journal_rewrite__start_p, ne_Journal_rewrite__used_p, ne_Journal_rewrite__records_p]
theorem pf_Journal__generation {v0 v1 v2 v3 v4 x : V} : putF ("_generation" : Str) x (fl_Journal v0 v1 v2 v3 v4) = fl_Journal v0 x v2 v3 v4 := by unfold fl_Journal; simp [putF, ne_Journal__boot__generation, ne_Journal__boot__start, ne_Journal__boot__used, ne_Journal__boot__records, ne_Journal__generation__boot, ne_Journal__generation__start, ne_Journal__generation__used, ne_Journal__generation__records, ne_Journal__start__boot, ne_Journal__start__generation, ne_Journal__start__used, ne_Journal__start__records, ne_Journal__used__boot, ne_Journal__used__generation, ne_Journal__used__start, ne_Journal__used__records, ne_Journal__records__boot, ne_Journal__records__generation, ne_Journal__records__start, ne_Journal__records__used, ne_Journal__read_records__boot, ne_Journal__read_records__generation, ne_Journal__read_records__start, ne_Journal__read_records__used, ne_Journal__read_records__records, ne_Journal_records__boot, ne_Journal_records__generation, ne_Journal_records__start, ne_Journal_records__used, ne_Journal_records__records, ne_Journal_append__boot, ne_Journal_append__generation, ne_Journal_append__start, ne_Journal_append__used, ne_Journal_append__records, ne_Journal_rewrite__boot, ne_Journal_rewrite__generation, ne_Journal_rewrite__start, ne_Journal_rewrite__used, ne_Journal_rewrite__records, ne_Journal__boot__generation_p, ne_Journal__boot__start_p, ne_Journal__boot__used_p, ne_Journal__boot__records_p, ne_Journal__generation__boot_p, ne_Journal__generation__start_p, ne_Journal__generation__used_p, ne_Journal__generation__records_p, ne_Journal__start__boot_p, ne_Journal__start__generation_p, ne_Journal__start__used_p, ne_Journal__start__records_p, ne_Journal__used__boot_p, ne_Journal__used__generation_p, ne_Journal__used__start_p, ne_Journal__used__records_p, ne_Journal__records__boot_p, ne_Journal__records__generation_p, ne_Journal__records__start_p, ne_Journal__records__used_p, ne_Journal__read_records__boot_p, ne_Journal__read_records__generation_p, ne_Journal__read_records__start_p, ne_Journal__read_records__used_p, ne_Journal__read_records__records_p, ne_Journal_records__boot_p, ne_Journal_records__generation_p, ne_Journal_records__start_p, ne_Journal_records__used_p, ne_Journal_records__records_p, ne_Journal_append__boot_p, ne_Journal_append__generation_p, ne_Journal_append__start_p, ne_Journal_append__used_p, ne_Journal_append__records_p, ne_Journal_rewrite__boot_p, ne_Journal_rewrite__generation_p, ne_Journal_rewrite__start_p, ne_Journal_rewrite__used_p, ne_Journal_rewrite__records_p]
theorem fl_Journal__start {v0 v1 v2 v3 v4 : V} : (fl_Journal v0 v1 v2 v3 v4).lookup ("_start" : Str) = some v2 := by unfold fl_Journal; simp [List.lookup, ne_Journal__boot__generation, ne_Journal__boot__start, ne_Journal__boot__used, ne_Journal__boot__records, ne_Journal__generation__boot, ne_Journal__generation__start, ne_Journal__generation__used, ne_Journal__generation__records, ne_Journal__start__boot, ne_Journal__start__generation, ne_Journal__start__used, ne_Journal__start__records, ne_Journal__used__boot, ne_Journal__used__generation, ne_Journal__used__start, ne_Journal__used__records, ne_Journal__records__boot, ne_Journal__records__generation, ne_Journal__records__start, ne_Journal__records__used, ne_Journal__read_records__boot, ne_Journal__read_records__generation, ne_Journal__read_records__start, ne_Journal__read_records__used, ne_Journal__read_records__records, ne_Journal_records__boot, ne_Journal_records__generation, ne_Journal_records__start, ne_Journal_records__used, ne_Journal_records__records, ne_Journal_append__boot, ne_Journal_append__generation, ne_Journal_append__start, ne_Journal_append__used, ne_Journal_append__records, ne_Journal_rewrite__boot, ne_Journal_rewrite__generation, ne_Journal_rewrite__start, ne_Journal_rewrite__used, ne_Journal_rewrite__records, ne_Journal__boot__generation_p, ne_Journal__boot__start_p, ne_Journal__boot__used_p, ne_Journal__boot__records_p, ne_Journal__generation__boot_p, ne_Journal__generation__start_p, ne_Journal__generation__used_p, ne_Journal__generation__records_p, ne_Journal__start__boot_p, ne_Journal__start__generation_p, ne_Journal__start__used_p, ne_Journal__start__records_p, ne_Journal__used__boot_p, ne_Journal__used__generation_p, ne_Journal__used__start_p, ne_Journal__used__records_p, ne_Journal__records__boot_p, ne_Journal__records__generation_p, ne_Journal__records__start_p, ne_Journal__records__used_p, ne_Journal__read_records__boot_p, ne_Journal__read_records__generation_p, ne_Journal__read_records__start_p, ne_Journal__read_records__used_p, ne_Journal__read_records__records_p, ne_Journal_records__boot_p, ne_Journal_records__generation_p, ne_Journal_records__start_p, ne_Journal_records__used_p, ne_Journal_records__records_p, ne_Journal_append__boot_p, ne_Journal_append__generation_p, ne_Journal_append__start_p, ne_Journal_append__used_p, ne_Journal_append__records_p, ne_Journal_rewrite__boot_p, ne_Journal_rewrite__generation_p, ne_Journal_rewrite__start_p, ne_Journal_rewrite__used_p, ne_Journal_rewrite__records_p]
theorem pf_Journal__start {v0 v1 v2 v3 v4 x : V} : putF ("_start" : Str) x (fl_Journal v0 v1 v2 v3 v4) = fl_Journal v0 v1 x v3 v4 := by unfold fl_Journal; simp [putF, ne_Journal__boot__generation, ne_Journal__boot__start, ne_Journal__boot__used, ne_Journal__boot__records, ne_Journal__generation__boot, ne_Journal__generation__start, ne_Journal__generation__used, ne_Journal__generation__records, ne_Journal__start__boot, ne_Journal__start__generation, ne_Journal__start__used, ne_Journal__start__records, ne_Journal__used__boot, ne_Journal__used__generation, ne_Journal__used__start, ne_Journal__used__records, ne_Journal__records__boot, ne_Journal__records__generation, ne_Journal__records__start, ne_Journal__records__used, ne_Journal__read_records__boot, ne_Journal__read_records__generation, ne_Journal__read_records__start, ne_Journal__read_records__used, ne_Journal__read_records__records, ne_Journal_records__boot, ne_Journal_records__generation, ne_Journal_records__start, ne_Journal_records__used, ne_Journal_records__records, ne_Journal_append__boot, ne_Journal_append__generation, ne_Journal_append__start, ne_Journal_append__used, ne_Journal_append__records, ne_Journal_rewrite__boot, ne_Journal_rewrite__generation, ne_Journal_rewrite__start, ne_Journal_rewrite__used, ne_Journal_rewrite__records, ne_Journal__boot__generation_p, ne_Journal__boot__start_p, ne_Journal__boot__used_p, ne_Journal__boot__records_p, ne_Journal__generation__boot_p, ne_Journal__generation__start_p, ne_Journal__generation__used_p, ne_Journal__generation__records_p, ne_Journal__start__boot_p, ne_Journal__start__generation_p, ne_Journal__start__used_p, ne_Journal__start__records_p, ne_Journal__used__boot_p, ne_Journal__used__generation_p, ne_Journal__used__start_p, ne_Journal__used__records_p, ne_Journal__records__boot_p, ne_Journal__records__generation_p, ne_Journal__records__start_p, ne_Journal__records__used_p, ne_Journal__read_records__boot_p, ne_Journal__read_records__generation_p, ne_Journal__read_records__start_p, ne_Journal__read_records__used_p, ne_Journal__read_records__records_p, ne_Journal_records__boot_p, ne_Journal_records__generation_p, ne_Journal_records__start_p, ne_Journal_records__used_p, ne_Journal_records__records_p, ne_Journal_append__boot_p, ne_Journal_append__generation_p, ne_Journal_append__start_p, ne_Journal_append__used_p, ne_Journal_append__records_p, ne_Journal_rewrite__boot_p, ne_Journal_rewrite__generation_p, ne_Journal_rewrite__start_p, ne_Journal_rewrite__used_p, ne_Journal_rewrite__records_p]
theorem fl_Journal__used {v0 v1 v2 v3 v4 : V} : (fl_Journal v0 v1 v2 v3 v4).lookup ("_used" : Str) = some v3 := by unfold fl_Journal; simp [List.lookup, ne_Journal__boot__generation, ne_Journal__boot__start, ne_Journal__boot__used, ne_Journal__boot__records, ne_Journal__generation__boot, ne_Journal__generation__start, ne_Journal__generation__used, ne_Journal__generation__records, ne_Journal__start__boot, ne_Journal__start__generation, ne_Journal__start__used, ne_Journal__start__records, ne_Journal__used__boot, ne_Journal__used__generation, ne_Journal__used__start, ne_Journal__used__records, ne_Journal__records__boot, ne_Journal__records__generation, ne_Journal__records__start, ne_Journal__records__used, ne_Journal__read_records__boot, ne_Journal__read_records__generation, ne_Journal__read_records__start, ne_Journal__read_records__used, ne_Journal__read_records__records, ne_Journal_records__boot, ne_Journal_records__generation, ne_Journal_records__start, ne_Journal_records__used, ne_Journal_records__records, ne_Journal_append__boot, ne_Journal_append__generation, ne_Journal_append__start, ne_Journal_append__used, ne_Journal_append__records, ne_Journal_rewrite__boot, ne_Journal_rewrite__generation, ne_Journal_rewrite__start, ne_Journal_rewrite__used, ne_Journal_rewrite__records, ne_Journal__boot__generation_p, ne_Journal__boot__start_p, ne_Journal__boot__used_p, ne_Journal__boot__records_p, ne_Journal__generation__boot_p, ne_Journal__generation__start_p, ne_Journal__generation__used_p, ne_Journal__generation__records_p, ne_Journal__start__boot_p, ne_Journal__start__generation_p, ne_Journal__start__used_p, ne_Journal__start__records_p, ne_Journal__used__boot_p, ne_Journal__used__generation_p, ne_Journal__used__start_p, ne_Journal__used__records_p, ne_Journal__records__boot_p, ne_Journal__records__generation_p, ne_Journal__records__start_p, ne_Journal__records__used_p, ne_Journal__read_records__boot_p, ne_Journal__read_records__generation_p, ne_Journal__read_records__start_p, ne_Journal__read_records__used_p, ne_Journal__read_records__records_p, ne_Journal_records__boot_p, ne_Journal_records__generation_p, ne_Journal_records__start_p, ne_Journal_records__used_p, ne_Journal_records__records_p, ne_Journal_append__boot_p, ne_Journal_append__generation_p, ne_Journal_append__start_p, ne_Journal_append__used_p, ne_Journal_append__records_p, ne_Journal_rewrite__boot_p, ne_Journal_rewrite__generation_p, ne_Journal_rewrite__start_p, ne_Journal_rewrite__used_p, ne_Journal_rewrite__records_p]
theorem pf_Journal__used {v0 v1 v2 v3 v4 x : V} : putF ("_used" : Str) x (fl_Journal v0 v1 v2 v3 v4) = fl_Journal v0 v1 v2 x v4 := by unfold fl_Journal; simp [putF, ne_Journal__boot__generation, ne_Journal__boot__start, ne_Journal__boot__used, ne_Journal__boot__records, ne_Journal__generation__boot, ne_Journal__generation__start, ne_Journal__generation__used, ne_Journal__generation__records, ne_Journal__start__boot, ne_Journal__start__generation, ne_Journal__start__used, ne_Journal__start__records, ne_Journal__used__boot, ne_Journal__used__generation, ne_Journal__used__start, ne_Journal__used__records, ne_Journal__records__boot, ne_Journal__records__generation, ne_Journal__records__start, ne_Journal__records__used, ne_Journal__read_records__boot, ne_Journal__read_records__generation, ne_Journal__read_records__start, ne_Journal__read_records__used, ne_Journal__read_records__records, ne_Journal_records__boot, ne_Journal_records__generation, ne_Journal_records__start, ne_Journal_records__used, ne_Journal_records__records, ne_Journal_append__boot, ne_Journal_append__generation, ne_Journal_append__start, ne_Journal_append__used, ne_Journal_append__records, ne_Journal_rewrite__boot, ne_Journal_rewrite__generation, ne_Journal_rewrite__start, ne_Journal_rewrite__used, ne_Journal_rewrite__records, ne_Journal__boot__generation_p, ne_Journal__boot__start_p, ne_Journal__boot__used_p, ne_Journal__boot__records_p, ne_Journal__generation__boot_p, ne_Journal__generation__start_p, ne_Journal__generation__used_p, ne_Journal__generation__records_p, ne_Journal__start__boot_p, ne_Journal__start__generation_p, ne_Journal__start__used_p, ne_Journal__start__records_p, ne_Journal__used__boot_p, ne_Journal__used__generation_p, ne_Journal__used__start_p, ne_Journal__used__records_p, ne_Journal__records__boot_p, ne_Journal__records__generation_p, ne_Journal__records__start_p, ne_Journal__records__used_p, ne_Journal__read_records__boot_p, ne_Journal__read_records__generation_p, ne_Journal__read_records__start_p, ne_Journal__read_records__used_p, ne_Journal__read_records__records_p, ne_Journal_records__boot_p, ne_Journal_records__generation_p, ne_Journal_records__start_p, ne_Journal_records__used_p, ne_Journal_records__records_p, ne_Journal_append__boot_p, ne_Journal_append__generation_p, ne_Journal_append__start_p, ne_Journal_append__used_p, ne_Journal_append__records_p, ne_Journal_rewrite__boot_p, ne_Journal_rewrite__generation_p, ne_Journal_rewrite__start_p, ne_Journal_rewrite__used_p, ne_Journal_rewrite__records_p]
theorem fl_Journal__records {v0 v1 v2 v3 v4 : V} : (fl_Journal v0 v1 v2 v3 v4).lookup ("_records" : Str) = some v4 := by unfold fl_Journal; simp [List.lookup, ne_Journal__boot__generation, ne_Journal__boot__start, ne_Journal__boot__used, ne_Journal__boot__records, ne_Journal__generation__boot, ne_Journal__generation__start, ne_Journal__generation__used, ne_Journal__generation__records, ne_Journal__start__boot, ne_Journal__start__generation, ne_Journal__start__used, ne_Journal__start__records, ne_Journal__used__boot, ne_Journal__used__generation, ne_Journal__used__start, ne_Journal__used__records, ne_Journal__records__boot, ne_Journal__records__generation, ne_Journal__records__start, ne_Journal__records__used, ne_Journal__read_records__boot, ne_Journal__read_records__generation, ne_Journal__read_records__start, ne_Journal__read_records__used, ne_Journal__read_records__records, ne_Journal_records__boot, ne_Journal_records__generation, ne_Journal_records__start, ne_Journal_records__used, ne_Journal_records__records, ne_Journal_append__boot, ne_Journal_append__generation, ne_Journal_append__start, ne_Journal_append__used, ne_Journal_append__records, ne_Journal_rewrite__boot, ne_Journal_rewrite__generation, ne_Journal_rewrite__start, ne_Journal_rewrite__used, ne_Journal_rewrite__records, ne_Journal__boot__generation_p, ne_Journal__boot__start_p, ne_Journal__boot__used_p, ne_Journal__boot__records_p, ne_Journal__generation__boot_p, ne_Journal__generation__start_p, ne_Journal__generation__used_p, ne_Journal__generation__records_p, ne_Journal__start__boot_p, ne_Journal__start__generation_p, ne_Journal__start__used_p, ne_Journal__start__records_p, ne_Journal__used__boot_p, ne_Journal__used__generation_p, ne_Journal__used__start_p, ne_Journal__used__records_p, ne_Journal__records__boot_p, ne_Journal__records__generation_p, ne_Journal__records__start_p, ne_Journal__records__used_p, ne_Journal__read_records__boot_p, ne_Journal__read_records__generation_p, ne_Journal__read_records__start_p, ne_Journal__read_records__used_p, ne_Journal__read_records__records_p, ne_Journal_records__boot_p, ne_Journal_records__generation_p, ne_Journal_records__start_p, ne_Journal_records__used_p, ne_Journal_records__records_p, ne_Journal_append__boot_p, ne_Journal_append__generation_p, ne_Journal_append__start_p, ne_Journal_append__used_p, ne_Journal_append__records_p, ne_Journal_rewrite__boot_p, ne_Journal_rewrite__generation_p, ne_Journal_rewrite__start_p, ne_Journal_rewrite__used_p, ne_Journal_rewrite__records_p]
theorem pf_Journal__records {v0 v1 v2 v3 v4 x : V} : putF ("_records" : Str) x (fl_Journal v0 v1 v2 v3 v4) = fl_Journal v0 v1 v2 v3 x := by unfold fl_Journal; simp [putF, ne_Journal__boot__generation, ne_Journal__boot__start, ne_Journal__boot__used, ne_Journal__boot__records, ne_Journal__generation__boot, ne_Journal__generation__start, ne_Journal__generation__used, ne_Journal__generation__records, ne_Journal__start__boot, ne_Journal__start__generation, ne_Journal__start__used, ne_Journal__start__records, ne_Journal__used__boot, ne_Journal__used__generation, ne_Journal__used__start, ne_Journal__used__records, ne_Journal__records__boot, ne_Journal__records__generation, ne_Journal__records__start, ne_Journal__records__used, ne_Journal__read_records__boot, ne_Journal__read_records__generation, ne_Journal__read_records__start, ne_Journal__read_records__used, ne_Journal__read_records__records, ne_Journal_records__boot, ne_Journal_records__generation, ne_Journal_records__start, ne_Journal_records__used, ne_Journal_records__records, ne_Journal_append__boot, ne_Journal_append__generation, ne_Journal_append__start, ne_Journal_append__used, ne_Journal_append__records, ne_Journal_rewrite__boot, ne_Journal_rewrite__generation, ne_Journal_rewrite__start, ne_Journal_rewrite__used, ne_Journal_rewrite__records, ne_Journal__boot__generation_p, ne_Journal__boot__start_p, ne_Journal__boot__used_p, ne_Journal__boot__records_p, ne_Journal__generation__boot_p, ne_Journal__generation__start_p, ne_Journal__generation__used_p, ne_Journal__generation__records_p, ne_Journal__start__boot_p, ne_Journal__start__generation_p, ne_Journal__start__used_p, ne_Journal__start__records_p, ne_Journal__used__boot_p, ne_Journal__used__generation_p, ne_Journal__used__start_p, ne_Journal__used__records_p, ne_Journal__records__boot_p, ne_Journal__records__generation_p, ne_Journal__records__start_p, ne_Journal__records__used_p, ne_Journal__read_records__boot_p, ne_Journal__read_records__generation_p, ne_Journal__read_records__start_p, ne_Journal__read_records__used_p, ne_Journal__read_records__records_p, ne_Journal_records__boot_p, ne_Journal_records__generation_p, ne_Journal_records__start_p, ne_Journal_records__used_p, ne_Journal_records__records_p, ne_Journal_append__boot_p, ne_Journal_append__generation_p, ne_Journal_append__start_p, ne_Journal_append__used_p, ne_Journal_append__records_p, ne_Journal_rewrite__boot_p, ne_Journal_rewrite__generation_p, ne_Journal_rewrite__start_p, ne_Journal_rewrite__used_p, ne_Journal_rewrite__records_p]
theorem fl_Journal_no__read_records {v0 v1 v2 v3 v4 : V} : (fl_Journal v0 v1 v2 v3 v4).lookup ("_read_records" : Str) = none := by unfold fl_Journal; simp [List.lookup, ne_Journal__boot__generation, ne_Journal__boot__start, ne_Journal__boot__used, ne_Journal__boot__records, ne_Journal__generation__boot, ne_Journal__generation__start, ne_Journal__generation__used, ne_Journal__generation__records, ne_Journal__start__boot, ne_Journal__start__generation, ne_Journal__start__used, ne_Journal__start__records, ne_Journal__used__boot, ne_Journal__used__generation, ne_Journal__used__start, ne_Journal__used__records, ne_Journal__records__boot, ne_Journal__records__generation, ne_Journal__records__start, ne_Journal__records__used, ne_Journal__read_records__boot, ne_Journal__read_records__generation, ne_Journal__read_records__start, ne_Journal__read_records__used, ne_Journal__read_records__records, ne_Journal_records__boot, ne_Journal_records__generation, ne_Journal_records__start, ne_Journal_records__used, ne_Journal_records__records, ne_Journal_append__boot, ne_Journal_append__generation, ne_Journal_append__start, ne_Journal_append__used, ne_Journal_append__records, ne_Journal_rewrite__boot, ne_Journal_rewrite__generation, ne_Journal_rewrite__start, ne_Journal_rewrite__used, ne_Journal_rewrite__records, ne_Journal__boot__generation_p, ne_Journal__boot__start_p, ne_Journal__boot__used_p, ne_Journal__boot__records_p, ne_Journal__generation__boot_p, ne_Journal__generation__start_p, ne_Journal__generation__used_p, ne_Journal__generation__records_p, ne_Journal__start__boot_p, ne_Journal__start__generation_p, ne_Journal__start__used_p, ne_Journal__start__records_p, ne_Journal__used__boot_p, ne_Journal__used__generation_p, ne_Journal__used__start_p, ne_Journal__used__records_p, ne_Journal__records__boot_p, ne_Journal__records__generation_p, ne_Journal__records__start_p, ne_Journal__records__used_p, ne_Journal__read_records__boot_p, ne_Journal__read_records__generation_p, ne_Journal__read_records__start_p, ne_Journal__read_records__used_p, ne_Journal__read_records__records_p, ne_Journal_records__boot_p, ne_Journal_records__generation_p, ne_Journal_records__start_p, ne_Journal_records__used_p, ne_Journal_records__records_p, ne_Journal_append__boot_p, ne_Journal_append__generation_p, ne_Journal_append__start_p, ne_Journal_append__used_p, ne_Journal_append__records_p, ne_Journal_rewrite__boot_p, ne_Journal_rewrite__generation_p, ne_Journal_rewrite__start_p, ne_Journal_rewrite__used_p, ne_Journal_rewrite__records_p]
theorem fl_Journal_no_records {v0 v1 v2 v3 v4 : V} : (fl_Journal v0 v1 v2 v3 v4).lookup ("records" : Str) = none := by unfold fl_Journal; simp [List.lookup, ne_Journal__boot__generation, ne_Journal__boot__start, ne_Journal__boot__used, ne_Journal__boot__records, ne_Journal__generation__boot, ne_Journal__generation__start, ne_Journal__generation__used, ne_Journal__generation__records, ne_Journal__start__boot, ne_Journal__start__generation, ne_Journal__start__used, ne_Journal__start__records, ne_Journal__used__boot, ne_Journal__used__generation, ne_Journal__used__start, ne_Journal__used__records, ne_Journal__records__boot, ne_Journal__records__generation, ne_Journal__records__start, ne_Journal__records__used, ne_Journal__read_records__boot, ne_Journal__read_records__generation, ne_Journal__read_records__start, ne_Journal__read_records__used, ne_Journal__read_records__records, ne_Journal_records__boot, ne_Journal_records__generation, ne_Journal_records__start, ne_Journal_records__used, ne_Journal_records__records, ne_Journal_append__boot, ne_Journal_append__generation, ne_Journal_append__start, ne_Journal_append__used, ne_Journal_append__records, ne_Journal_rewrite__boot, ne_Journal_rewrite__generation, ne_Journal_rewrite__start, ne_Journal_rewrite__used, ne_Journal_rewrite__records, ne_Journal__boot__generation_p, ne_Journal__boot__start_p, ne_Journal__boot__used_p, ne_Journal__boot__records_p, ne_Journal__generation__boot_p, ne_Journal__generation__start_p, ne_Journal__generation__used_p, ne_Journal__generation__records_p, ne_Journal__start__boot_p, ne_Journal__start__generation_p, ne_Journal__start__used_p, ne_Journal__start__records_p, ne_Journal__used__boot_p, ne_Journal__used__generation_p, ne_Journal__used__start_p, ne_Journal__used__records_p, ne_Journal__records__boot_p, ne_Journal__records__generation_p, ne_Journal__records__start_p, ne_Journal__records__used_p, ne_Journal__read_records__boot_p, ne_Journal__read_records__generation_p, ne_Journal__read_records__start_p, ne_Journal__read_records__used_p, ne_Journal__read_records__records_p, ne_Journal_records__boot_p, ne_Journal_records__generation_p, ne_Journal_records__start_p, ne_Journal_records__used_p, ne_Journal_records__records_p, ne_Journal_append__boot_p, ne_Journal_append__generation_p, ne_Journal_append__start_p, ne_Journal_append__used_p, ne_Journal_append__records_p, ne_Journal_rewrite__boot_p, ne_Journal_rewrite__generation_p, ne_Journal_rewrite__start_p, ne_Journal_rewrite__used_p, ne_Journal_rewrite__records_p]
theorem fl_Journal_no_append {v0 v1 v2 v3 v4 : V} : (fl_Journal v0 v1 v2 v3 v4).lookup ("append" : Str) = none := by unfold fl_Journal; simp [List.lookup, ne_Journal__boot__generation, ne_Journal__boot__start, ne_Journal__boot__used, ne_Journal__boot__records, ne_Journal__generation__boot, ne_Journal__generation__start, ne_Journal__generation__used, ne_Journal__generation__records, ne_Journal__start__boot, ne_Journal__start__generation, ne_Journal__start__used, ne_Journal__start__records, ne_Journal__used__boot, ne_Journal__used__generation, ne_Journal__used__start, ne_Journal__used__records, ne_Journal__records__boot, ne_Journal__records__generation, ne_Journal__records__start, ne_Journal__records__used, ne_Journal__read_records__boot, ne_Journal__read_records__generation, ne_Journal__read_records__start, ne_Journal__read_records__used, ne_Journal__read_records__records, ne_Journal_records__boot, ne_Journal_records__generation, ne_Journal_records__start, ne_Journal_records__used, ne_Journal_records__records, ne_Journal_append__boot, ne_Journal_append__generation, ne_Journal_append__start, ne_Journal_append__used, ne_Journal_append__records, ne_Journal_rewrite__boot, ne_Journal_rewrite__generation, ne_Journal_rewrite__start, ne_Journal_rewrite__used, ne_Journal_rewrite__records, ne_Journal__boot__generation_p, ne_Journal__boot__start_p, ne_Journal__boot__used_p, ne_Journal__boot__records_p, ne_Journal__generation__boot_p, ne_Journal__generation__start_p, ne_Journal__generation__used_p, ne_Journal__generation__records_p, ne_Journal__start__boot_p, ne_Journal__start__generation_p, ne_Journal__start__used_p, ne_Journal__start__records_p, ne_Journal__used__boot_p, ne_Journal__used__generation_p, ne_Journal__used__start_p, ne_Journal__used__records_p, ne_Journal__records__boot_p, ne_Journal__records__generation_p, ne_Journal__records__start_p, ne_Journal__records__used_p, ne_Journal__read_records__boot_p, ne_Journal__read_records__generation_p, ne_Journal__read_records__start_p, ne_Journal__read_records__used_p, ne_Journal__read_records__records_p, ne_Journal_records__boot_p, ne_Journal_records__generation_p, ne_Journal_records__start_p, ne_Journal_records__used_p, ne_Journal_records__records_p, ne_Journal_append__boot_p, ne_Journal_append__generation_p, ne_Journal_append__start_p, ne_Journal_append__used_p, ne_Journal_append__records_p, ne_Journal_rewrite__boot_p, ne_Journal_rewrite__generation_p, ne_Journal_rewrite__start_p, ne_Journal_rewrite__used_p, ne_Journal_rewrite__records_p]
theorem fl_Journal_no_rewrite {v0 v1 v2 v3 v4 : V} : (fl_Journal v0 v1 v2 v3 v4).lookup ("rewrite" : Str) = none := by unfold fl_Journal; simp [List.lookup, ne_Journal__boot__generation, ne_Journal__boot__start, ne_Journal__boot__used, ne_Journal__boot__records, ne_Journal__generation__boot, ne_Journal__generation__start, ne_Journal__generation__used, ne_Journal__generation__records, ne_Journal__start__boot, ne_Journal__start__generation, ne_Journal__start__used, ne_Journal__start__records, ne_Journal__used__boot, ne_Journal__used__generation, ne_Journal__used__start, ne_Journal__used__records, ne_Journal__records__boot, ne_Journal__records__generation, ne_Journal__records__start, ne_Journal__records__used, ne_Journal__read_records__boot, ne_Journal__read_records__generation, ne_Journal__read_records__start, ne_Journal__read_records__used, ne_Journal__read_records__records, ne_Journal_records__boot, ne_Journal_records__generation, ne_Journal_records__start, ne_Journal_records__used, ne_Journal_records__records, ne_Journal_append__boot, ne_Journal_append__generation, ne_Journal_append__start, ne_Journal_append__used, ne_Journal_append__records, ne_Journal_rewrite__boot, ne_Journal_rewrite__generation, ne_Journal_rewrite__start, ne_Journal_rewrite__used, ne_Journal_rewrite__records, ne_Journal__boot__generation_p, ne_Journal__boot__start_p, ne_Journal__boot__used_p, ne_Journal__boot__records_p, ne_Journal__generation__boot_p, ne_Journal__generation__start_p, ne_Journal__generation__used_p, ne_Journal__generation__records_p, ne_Journal__start__boot_p, ne_Journal__start__generation_p, ne_Journal__start__used_p, ne_Journal__start__records_p, ne_Journal__used__boot_p, ne_Journal__used__generation_p, ne_Journal__used__start_p, ne_Journal__used__records_p, ne_Journal__records__boot_p, ne_Journal__records__generation_p, ne_Journal__records__start_p, ne_Journal__records__used_p, ne_Journal__read_records__boot_p, ne_Journal__read_records__generation_p, ne_Journal__read_records__start_p, ne_Journal__read_records__used_p, ne_Journal__read_records__records_p, ne_Journal_records__boot_p, ne_Journal_records__generation_p, ne_Journal_records__start_p, ne_Journal_records__used_p, ne_Journal_records__records_p, ne_Journal_append__boot_p, ne_Journal_append__generation_p, ne_Journal_append__start_p, ne_Journal_append__used_p, ne_Journal_append__records_p, ne_Journal_rewrite__boot_p, ne_Journal_rewrite__generation_p, ne_Journal_rewrite__start_p, ne_Journal_rewrite__used_p, ne_Journal_rewrite__records_p]
theorem fl_Journal_new {v0 v1 v2 v3 v4 : V} : putF ("_records" : Str) v4 (putF ("_used" : Str) v3 (putF ("_start" : Str) v2 (putF ("_generation" : Str) v1 (putF ("_boot" : Str) v0 ([]))))) = fl_Journal v0 v1 v2 v3 v4 := by unfold fl_Journal; simp [putF, ne_Journal__boot__generation, ne_Journal__boot__start, ne_Journal__boot__used, ne_Journal__boot__records, ne_Journal__generation__boot, ne_Journal__generation__start, ne_Journal__generation__used, ne_Journal__generation__records, ne_Journal__start__boot, ne_Journal__start__generation, ne_Journal__start__used, ne_Journal__start__records, ne_Journal__used__boot, ne_Journal__used__generation, ne_Journal__used__start, ne_Journal__used__records, ne_Journal__records__boot, ne_Journal__records__generation, ne_Journal__records__start, ne_Journal__records__used, ne_Journal__read_records__boot, ne_Journal__read_records__generation, ne_Journal__read_records__start, ne_Journal__read_records__used, ne_Journal__read_records__records, ne_Journal_records__boot, ne_Journal_records__generation, ne_Journal_records__start, ne_Journal_records__used, ne_Journal_records__records, ne_Journal_append__boot, ne_Journal_append__generation, ne_Journal_append__start, ne_Journal_append__used, ne_Journal_append__records, ne_Journal_rewrite__boot, ne_Journal_rewrite__generation, ne_Journal_rewrite__start, ne_Journal_rewrite__used, ne_Journal_rewrite__records, ne_Journal__boot__generation_p, ne_Journal__boot__start_p, ne_Journal__boot__used_p, ne_Journal__boot__records_p, ne_Journal__generation__boot_p, ne_Journal__generation__start_p, ne_Journal__generation__used_p, ne_Journal__generation__records_p, ne_Journal__start__boot_p, ne_Journal__start__generation_p, ne_Journal__start__used_p, ne_Journal__start__records_p, ne_Journal__used__boot_p, ne_Journal__used__generation_p, ne_Journal__used__start_p, ne_Journal__used__records_p, ne_Journal__records__boot_p, ne_Journal__records__generation_p, ne_Journal__records__start_p, ne_Journal__records__used_p, ne_Journal__read_records__boot_p, ne_Journal__read_records__generation_p, ne_Journal__read_records__start_p, ne_Journal__read_records__used_p, ne_Journal__read_records__records_p, ne_Journal_records__boot_p, ne_Journal_records__generation_p, ne_Journal_records__start_p, ne_Journal_records__used_p, ne_Journal_records__records_p, ne_Journal_append__boot_p, ne_Journal_append__generation_p, ne_Journal_append__start_p, ne_Journal_append__used_p, ne_Journal_append__records_p, ne_Journal_rewrite__boot_p, ne_Journal_rewrite__generation_p, ne_Journal_rewrite__start_p, ne_Journal_rewrite__used_p, ne_Journal_rewrite__records_p]

theorem or_use {ta tb : TT} {σ : L2.St} {H : Hp} {Q : Bool → Hp → Prop} {x y : Bool} (ha : ∀ R : Bool → Hp → Prop, R x H → ta σ H R) (hb : ∀ R : Bool → Hp → Prop, R y H → tb σ H R) (q : Q (x || y) H) : tOr ta tb σ H Q := by
  refine ha _ ?_
  cases x with
  | true => exact (if_pos rfl).mpr q
  | false => exact (if_neg Bool.false_ne_true).mpr (hb _ q)
theorem and_use {ta tb : TT} {σ : L2.St} {H : Hp} {Q : Bool → Hp → Prop} {x y : Bool} (ha : ∀ R : Bool → Hp → Prop, R x H → ta σ H R) (hb : ∀ R : Bool → Hp → Prop, R y H → tb σ H R) (q : Q (x && y) H) : tAnd ta tb σ H Q := by
  refine ha _ ?_
  cases x with
  | true => exact (if_pos rfl).mpr (hb _ q)
  | false => exact (if_neg Bool.false_ne_true).mpr q
def Bytes (bs : List Int) : Prop := ∀ b ∈ bs, 0 ≤ b ∧ b < 256
/-- numbers stay below this -/
def Lim : Nat := 128 ^ 500
/-! numbers written in groups of seven bits -/
def enc (n : Nat) : List Int := if h : n ≤ 127 then [(n : Int)] else ((128 + n % 128 : Nat) : Int) :: enc (n / 128)
termination_by n
decreasing_by omega
theorem enc_small {n : Nat} (h : n ≤ 127) : enc n = [(n : Int)] := by rw [enc, dif_pos h]
theorem enc_big {n : Nat} (h : ¬ n ≤ 127) : enc n = ((128 + n % 128 : Nat) : Int) :: enc (n / 128) := by rw [enc, dif_neg h]
theorem enc_len : ∀ (L n : Nat), n < 128 ^ (L + 1) → (enc n).length ≤ L + 1
  | 0, n, h => by
    have : n ≤ 127 := by simp at h; omega
    rw [enc_small this]
    simp
  | L + 1, n, h => by
    by_cases c : n ≤ 127
    · rw [enc_small c]
      simp
    · rw [enc_big c, List.length_cons]
      have := enc_len L (n / 128) (by rw [Nat.pow_succ] at h; exact (Nat.div_lt_iff_lt_mul (by decide)).mpr h)
      omega
theorem enc_lim {n : Nat} (h : n < Lim) : (enc n).length ≤ 500 := enc_len 499 n h
theorem enc_pos (n : Nat) : 0 < (enc n).length := by
  by_cases c : n ≤ 127
  · rw [enc_small c]; simp
  · rw [enc_big c, List.length_cons]; omega
theorem enc_bytes : ∀ n : Nat, Bytes (enc n) := by
  intro n
  induction n using Nat.strongRecOn with
  | ind n ih =>
    intro b hb
    by_cases c : n ≤ 127
    · rw [enc_small c, List.mem_singleton] at hb
      omega
    · rw [enc_big c] at hb
      rcases List.mem_cons.mp hb with e | hb
      · omega
      · exact ih (n / 128) (by omega) b hb
/-- what a row holds from its begin on -/
inductive Rd where
  | num (n : Int) (len : Nat)
  | trunc
  | malf
def rdGo : Nat → Nat → Int → List Int → Rd
  | 0, _, _, _ => .malf
  | _ + 1, _, _, [] => .trunc
  | f + 1, c, acc, b :: bs => if b < 128 then (if b = 0 ∧ 0 < c then .malf else .num (acc + b * 128 ^ c) (c + 1)) else rdGo f (c + 1) (acc + (b - 128) * 128 ^ c) bs
def rd (bs : List Int) : Rd := rdGo 500 0 0 bs
theorem rd_enc : ∀ (n : Nat) (f c : Nat) (acc : Int) (rest : List Int), (enc n).length ≤ f → (c = 0 ∨ n ≠ 0) → rdGo f c acc (enc n ++ rest) = .num (acc + n * 128 ^ c) (c + (enc n).length) := by
  intro n
  induction n using Nat.strongRecOn with
  | ind n ih =>
    intro f c acc rest hl hc
    by_cases h : n ≤ 127
    · rw [enc_small h] at hl ⊢
      obtain ⟨f, rfl⟩ : ∃ g, f = g + 1 := ⟨f - 1, by simp at hl; omega⟩
      show (if (n : Int) < 128 then (if (n : Int) = 0 ∧ 0 < c then Rd.malf else .num (acc + n * 128 ^ c) (c + 1)) else _) = _
      rw [if_pos (by omega), if_neg (by omega)]
      rfl
    · rw [enc_big h] at hl ⊢
      obtain ⟨f, rfl⟩ : ∃ g, f = g + 1 := ⟨f - 1, by simp at hl; omega⟩
      show (if ((128 + n % 128 : Nat) : Int) < 128 then _ else rdGo f (c + 1) (acc + (((128 + n % 128 : Nat) : Int) - 128) * 128 ^ c) (enc (n / 128) ++ rest)) = _
      rw [if_neg (by omega), ih (n / 128) (by omega) f (c + 1) _ rest (by simp at hl; omega) (.inr (by omega)), List.length_cons]
      have e : ((n : Int)) = ((n / 128 : Nat) : Int) * 128 + ((n % 128 : Nat) : Int) := by omega
      have e1 : (((128 + n % 128 : Nat) : Int) - 128) = ((n % 128 : Nat) : Int) := by omega
      rw [e1]
      congr 1
      · rw [Int.pow_succ, Int.mul_comm (128 ^ c) 128, ← Int.mul_assoc, Int.add_assoc, ← Int.add_mul]
        congr 2
        omega
      · omega
def sp_take (K : PySem.W.Frag) (cT cM : Addr) : Sp := fun vs H Q E => ∃ (a : Addr) (bs : List Int) (i : Nat), vs = [.ref a, .int (i : Int)] ∧ SqL K H a (bs.map V.int) ∧ Bytes bs ∧ i ≤ bs.length ∧ bs.length ≤ 90000 ∧
  (∀ n c, rd (bs.drop i) = .num n c → ∀ p H', H p = none → Same H H' → H' p = some (.tup [.int n, .int ((i + c : Nat) : Int)]) → Q (.ref p) H') ∧ (rd (bs.drop i) = .trunc → E (.ref cT) none H) ∧ (rd (bs.drop i) = .malf → E (.ref cM) none H)
theorem pow128 (t : Nat) : (2 : Int) ^ (7 * t) = 128 ^ t := by rw [Int.pow_mul]; rfl
theorem and127 : V.int 127 = V.int (2 ^ 7 - 1) := by congr 1
section
variable {P : Program} {w : World} {K : PySem.W.Frag} {mg : Str → Option Value} {base : Heap}
theorem ok_take_number (T : TX K mg) : FnOk P w K mg base (L2.CX P w) 1 T.a_take_number T.d_take_number ["row", "index"] (sp_take K T.a_Truncated T.a_Malformed) := by
  refine T.F_take_number.okX sc_take_number (fun vs H Q E h => ?_) (fun cdv A outer s H vs Q E hr h => ?_)
  · obtain ⟨a, bs, i, rfl, _⟩ := h
    rfl
  · obtain ⟨a, bs, i, rfl, hS, hb, hi, hlen, q, qT, qM⟩ := h
    refine ⟨_, (pss_cons (ps_set (i := 2) sc_take_number.nd rfl (Or.inl rfl) pe_int)
      (pss_cons (ps_set (i := 3) sc_take_number.nd rfl (Or.inl rfl) pe_int)
      (pss_cons (ps_for (passes_of rfl) rfl (pi_range2 (by rfl) T.n_range (pa_cons (pv 1) (pa_cons (pe_callB (call_min2 rfl) (by rfl) T.n_min (by decide +kernel) (pa_cons (pe_callB call_len_seq (by rfl) T.n_len PySem.boot_len (pa_cons (pv 0) pa_nil)) (pa_cons (pe_op op_add (pv 1) (pe_glob (v := .int 500) (by rfl) T.c_MOST_BYTES ⟨_, rfl⟩)) pa_nil))) pa_nil))) (pg_name (i := 4) sc_take_number.nd rfl (Or.inl rfl))
        (pss_cons (ps_set (i := 5) sc_take_number.nd rfl (Or.inl rfl) (pe_ix ix_list (pv 0) (pv 4) (fun _ _ => rfl)))
        (pss_cons (ps_aug (i := 2) sc_take_number.nd rfl (Or.inl rfl) (pe_op op_shlN (pe_op op_andM (pv 5) pe_int) (pv 3)) ip_or)
        (pss_cons (ps_aug (i := 3) sc_take_number.nd rfl (Or.inl rfl) pe_int ip_add)
        (pss_one (ps_if (pt_cmpR op_lt (pv 5) pe_int (nomark _)) (pss_cons (ps_if (PW.pt (pw_and (pt_cmpR op_eq (pv 5) pe_int (nomark _)) (pw_and1 (pt_cmpR op_gt (pv 4) (pv 1) (nomark _))))) (pss_one (ps_raise rfl (takes_of rfl rfl rfl rfl) (pmk_own PySem.F.excBase_ValueError T.x_Malformed T.g_Malformed T.k_Malformed (raises_own T.s_Malformed T.t_Malformed) rfl))) pss_nil)
          (pss_one (ps_ret (pe_tup (pa_cons (pv 2) (pa_cons (pe_op op_add (pv 4) pe_int) pa_nil)))))) pss_nil))))))
      (pss_cons (ps_if (pt_cmpR op_ge (pe_op op_sub (pe_callB call_len_seq (by rfl) T.n_len PySem.boot_len (pa_cons (pv 0) pa_nil)) (pv 1)) (pe_glob (v := .int 500) (by rfl) T.c_MOST_BYTES ⟨_, rfl⟩) (nomark _)) (pss_one (ps_raise rfl (takes_of rfl rfl rfl rfl) (pmk_own PySem.F.excBase_ValueError T.x_Malformed T.g_Malformed T.k_Malformed (raises_own T.s_Malformed T.t_Malformed) rfl))) pss_nil)
      (pss_one (ps_raise rfl (takes_of rfl rfl rfl rfl) (pmk_own PySem.F.excBase_ValueError T.x_Truncated T.g_Truncated T.k_Truncated (raises_own T.s_Truncated T.t_Truncated) rfl))))))), ?_⟩
    have hml : (bs.map V.int).length = bs.length := List.length_map _
    refine ⟨_, rfl, _, rfl, a, _, rfl, .inl hS, _, rfl, _, _, rfl, rfl, _, _, rfl, ?_⟩
    obtain ⟨m, hm, hmi⟩ : ∃ m : Nat, (if (i : Int) + 500 < (bs.length : Int) then (i : Int) + 500 else (bs.length : Int)) = ((i + m : Nat) : Int) ∧ m = min (bs.length - i) 500 := by
      refine ⟨min (bs.length - i) 500, ?_, rfl⟩
      split <;> omega
    refine ⟨(i : Int), ((i + m : Nat) : Int), ?_, ⟨by omega, by omega, by omega, by omega⟩, for_range (lo := (i : Int)) (n := _) (fun t σ H' => H = H' ∧ ∃ (x4 x5 : Option V) (acc : Int), σ = [some (.ref a), some (.int (i : Int)), some (.int acc), some (.int ((7 * t : Nat) : Int)), x4, x5] ∧ 0 ≤ acc ∧ acc < 2 ^ (7 * t) ∧ rd (bs.drop i) = rdGo (500 - t) t acc (bs.drop (i + t)))
      ?_ ?_ ?_⟩
    · try dsimp only
      rw [hml, hm]
    · exact ⟨rfl, none, none, 0, rfl, by decide, by decide, rfl⟩
    · rintro t σ _ ht ⟨rfl, x4, x5, acc, rfl, h0, h1, hrd⟩
      have ht' : t < m := by omega
      have hlt : i + t < bs.length := by omega
      have hg : bs[i + t]? = some bs[i + t] := List.getElem?_eq_getElem hlt
      have hbb := hb _ (List.getElem_mem hlt)
      have hdr : bs.drop (i + t) = bs[i + t] :: bs.drop (i + (t + 1)) := List.drop_eq_getElem_cons hlt
      have ga : atI (bs.map V.int) ((i : Int) + (t : Int)) = some (.int bs[i + t]) := by
        have := at_map (f := V.int) hg
        rwa [Int.natCast_add] at this
      rw [hdr, show 500 - t = (499 - t) + 1 by omega] at hrd
      generalize bs[i + t] = b at hg hbb hrd ga hdr
      have hp : (0 : Int) < 2 ^ (7 * t) := Int.pow_pos (by decide)
      refine ⟨_, rfl, _, rfl, a, _, _, .int b, rfl, rfl, hS, ga, ?_⟩
      refine ⟨_, rfl, _, rfl, b, 7, rfl, and127, _, rfl, b % 2 ^ 7, 7 * t, rfl, rfl, ⟨by omega, ?_⟩, acc, b % 2 ^ 7, 7 * t, rfl, rfl, ⟨by omega, h0, h1⟩, ?_⟩
      · obtain ⟨k, hk⟩ : ∃ k : Nat, b % 2 ^ 7 = (k : Int) := ⟨(b % 2 ^ 7).toNat, by omega⟩
        rw [hk]
        have := bits_small k (by omega)
        omega
      refine ⟨_, rfl, _, _, rfl, rfl, ?_⟩
      refine ⟨_, rfl, _, _, rfl, rfl, _, rfl, ifd (fun hc => ?_) (fun hc => ?_)⟩
      · have eb : b % 2 ^ 7 = b := by omega
        have hgo : rdGo ((499 - t) + 1) t acc (b :: bs.drop (i + (t + 1))) = if b = 0 ∧ 0 < t then .malf else .num (acc + b * 128 ^ t) (t + 1) := by
          show (if b < 128 then _ else _) = _
          rw [if_pos hc]
        rw [hgo] at hrd
        refine ⟨_, rfl, rfl, _, rfl, ifd (fun hz => ?_) (fun hz => ?_)⟩
        · have hz' : b = 0 := V.int.inj hz
          refine ⟨_, rfl, _, rfl, _, _, rfl, rfl, _, rfl, ifd (fun hq => ?_) (fun hq => ?_)⟩
          · rw [if_pos ⟨hz', by omega⟩] at hrd
            exact qM hrd
          · rw [if_neg (by omega)] at hrd
            refine ⟨_, rfl, _, rfl, _, _, rfl, rfl, (by show 2 ≤ sizeLine; decide), fun p hp => q _ _ hrd p _ hp (same_upd hp) ?_⟩
            rw [upd_same, eb, pow128]
            congr 6
        · rw [if_neg (fun z => hz (by rw [z.1]))] at hrd
          refine ⟨_, rfl, _, rfl, _, _, rfl, rfl, (by show 2 ≤ sizeLine; decide), fun p hp => q _ _ hrd p _ hp (same_upd hp) ?_⟩
          rw [upd_same, eb, pow128]
          congr 6
      · have eb : b % 2 ^ 7 = b - 128 := by omega
        have hgo : rdGo ((499 - t) + 1) t acc (b :: bs.drop (i + (t + 1))) = rdGo (499 - t) (t + 1) (acc + (b - 128) * 128 ^ t) (bs.drop (i + (t + 1))) := by
          show (if b < 128 then _ else _) = _
          rw [if_neg hc]
        rw [hgo] at hrd
        refine ⟨rfl, some (.int ((i : Int) + (t : Int))), some (.int b), acc + (b - 128) * 2 ^ (7 * t), ?_, ?_, ?_, ?_⟩
        · rw [eb]
          have : ((7 * t : Nat) : Int) + 7 = ((7 * (t + 1) : Nat) : Int) := by omega
          show [_, _, _, some (V.int (((7 * t : Nat) : Int) + 7)), _, _] = _
          rw [this]
        · have := Int.mul_nonneg (show (0 : Int) ≤ b - 128 by omega) (Int.le_of_lt hp)
          omega
        · have e1 : (2 : Int) ^ (7 * (t + 1)) = 128 * 2 ^ (7 * t) := by rw [pow128, pow128, Int.pow_succ, Int.mul_comm]
          have e2 : (b - 128) * 2 ^ (7 * t) ≤ 127 * 2 ^ (7 * t) := Int.mul_le_mul_of_nonneg_right (by omega) (Int.le_of_lt hp)
          rw [e1]
          omega
        · rw [pow128, show 500 - (t + 1) = 499 - t by omega]
          exact hrd
    · rintro σ _ ⟨rfl, x4, x5, acc, rfl, h0, h1, hrd⟩
      have hn : (((i + m : Nat) : Int) - (i : Int)).toNat = m := by omega
      rw [hn] at hrd
      refine ⟨_, rfl, a, _, rfl, .inl hS, _, rfl, _, _, rfl, rfl, _, _, rfl, rfl, _, rfl, ifd (fun hc => ?_) (fun hc => ?_)⟩
      · rw [hml] at hc
        have : m = 500 := by omega
        subst this
        exact qM hrd
      · rw [hml] at hc
        have h2 : bs.drop (i + m) = [] := List.drop_of_length_le (by omega)
        rw [h2, show 500 - m = (499 - m) + 1 by omega] at hrd
        exact qT hrd
end
def sp_put (K : PySem.W.Frag) : Sp := fun vs H Q _ => ∃ (n : Nat), vs = [.int (n : Int)] ∧ n < Lim ∧ ∀ p H', H p = none → Same H H' → H' p = some (.lst ((enc n).map V.int)) → Q (.ref p) H'
section
variable {P : Program} {w : World} {K : PySem.W.Frag} {mg : Str → Option Value} {base : Heap}
theorem ok_put_number (T : TX K mg) : FnOk P w K mg base CX0 1 T.a_put_number T.d_put_number ["number"] (sp_put K) := by
  refine T.F_put_number.ok sc_put_number (fun vs H Q E h => ?_) (fun cdv A outer s H vs Q E hr h => ?_)
  · obtain ⟨n, rfl, _⟩ := h
    rfl
  · obtain ⟨n, rfl, hn, q⟩ := h
    refine ⟨_, (pss_cons (ps_set (i := 1) sc_put_number.nd rfl (Or.inl rfl) (pe_lst pa_nil))
      (pss_cons (ps_while PassesOwn.never (pt_cmpR op_gt (pv 0) pe_int (nomark _))
        (pss_cons (ps_expr (pe_bm PySem.F.plainAttrs_list PySem.F.slot_list_append PySem.F.type_list_append mt_append (pv 1) (pa_cons (pe_op op_add pe_int (pe_op op_andM (pv 0) pe_int)) pa_nil)))
        (pss_one (ps_aug (i := 0) sc_put_number.nd rfl (Or.inl rfl) pe_int ip_shr))))
      (pss_cons (ps_expr (pe_bm PySem.F.plainAttrs_list PySem.F.slot_list_append PySem.F.type_list_append mt_append (pv 1) (pa_cons (pv 0) pa_nil)))
      (pss_one (ps_ret (pv 1)))))), ?_⟩
    have hl := enc_lim hn
    refine ⟨Nat.zero_le _, fun o ho => ?_⟩
    refine while_by (fun σ H' => ∃ (xs : List Int) (m : Nat), σ = [some (.int (m : Int)), some (.ref o)] ∧ Same H H' ∧ H' o = some (.lst (xs.map V.int)) ∧ xs ++ enc m = enc n) (fun σ _ => match σ with | some (.int m) :: _ => m.toNat | _ => 0)
      ⟨[], n, rfl, same_upd ho, upd_same, rfl⟩ ?_ (fun σ H Q Q' hq ⟨v, h1, i, j, h2, h3, k, h4, h5⟩ => ⟨v, h1, i, j, h2, h3, k, h4, hq _ _ h5⟩)
    rintro σ H' ⟨xs, m, rfl, s1, e1, hx⟩
    have hxl : xs.length ≤ 500 := by
      have := congrArg List.length hx
      rw [List.length_append] at this
      omega
    refine ⟨_, rfl, _, _, rfl, rfl, _, rfl, ifd (fun hc => ?_) (fun hc => ?_)⟩
    · have hm : ¬ m ≤ 127 := by omega
      refine ⟨_, rfl, .inl ⟨rfl, _, sql e1⟩, _, rfl, (m : Int), 7, rfl, and127, _, _, rfl, rfl, o, _, _, rfl, rfl, e1, szl (by rw [List.length_map]; omega), ?_⟩
      refine ⟨_, rfl, (m : Int), 7, rfl, rfl, ?_⟩
      have e7 : (m : Int) / 2 ^ 7 = ((m / 128 : Nat) : Int) := by rw [Int.natCast_ediv]; rfl
      have e8 : 128 + (m : Int) % 2 ^ 7 = ((128 + m % 128 : Nat) : Int) := by rw [Int.natCast_add, Int.natCast_emod]; rfl
      refine ⟨⟨xs ++ [((128 + m % 128 : Nat) : Int)], m / 128, ?_, same_put s1 ho, ?_, ?_⟩, ?_⟩
      · show [some (V.int ((m : Int) / 2 ^ 7)), _] = _
        rw [e7]
      · rw [upd_same, List.map_append]
        show some (HO.lst (xs.map V.int ++ [V.int (128 + (m : Int) % 2 ^ 7)])) = _
        rw [e8]
        rfl
      · rw [List.append_assoc, ← hx, enc_big hm]
        rfl
      · show ((m : Int) / 2 ^ 7).toNat < ((m : Int)).toNat
        rw [e7]
        omega
    · have hm : m ≤ 127 := by omega
      rw [enc_small hm] at hx
      refine ⟨_, rfl, .inl ⟨rfl, _, sql e1⟩, _, rfl, o, _, _, rfl, rfl, e1, szl (by rw [List.length_map]; omega), ?_⟩
      refine ⟨_, rfl, q o _ ho (same_put s1 ho) ?_⟩
      rw [upd_same, ← hx, List.map_append]
      rfl
end
def plainC (c : Nat) : Bool := !(decide (c < 32) || decide (126 < c) || decide (c = 37))
def plainS (z : Str) : Bool := z.cps.toList.all plainC
theorem zlen (z : Str) : z.length = z.cps.toList.length := by show z.cps.size = _; simp
theorem str_ext {a b : Str} (h : a.cps.toList = b.cps.toList) : a = b := by
  cases a; cases b
  simp only [Str.mk.injEq]
  exact Array.toList_inj.mp h
def sp_str (f : Str → Bool) : Sp := fun vs H Q _ => ∃ z, vs = [.str z] ∧ z.length ≤ 100000 ∧ Q (.bl (f z)) H
theorem all_take {α : Type} {l : List α} {i : Nat} {x : α} {f : α → Bool} (h : l[i]? = some x) : (l.take (i + 1)).all f = ((l.take i).all f && f x) := by
  rw [take_more h, List.all_append]
  simp
theorem cps_at {z : Str} {i c : Nat} (h : z.cps[i]? = some c) : z.cps.toList[i]? = some c := by simpa using h
theorem sizeL (z : Str) : z.cps.size = z.cps.toList.length := by simp
theorem sign_inj {a b : Nat} (h : (⟨#[a]⟩ : Str) = ⟨#[b]⟩) : a = b := by
  injection h with h
  injection h with h
  injection h with h
section
variable {P : Program} {w : World} {K : PySem.W.Frag} {mg : Str → Option Value} {base : Heap}
theorem ok_has_plain_characters (T : TX K mg) : FnOk P w K mg base CX0 1 T.a_has_plain_characters T.d_has_plain_characters ["text"] (sp_str plainS) := by
  refine T.F_has_plain_characters.ok sc_has_plain_characters (fun vs H Q E h => ?_) (fun cdv A outer s H vs Q E hr h => ?_)
  · obtain ⟨z, rfl, _⟩ := h
    rfl
  · obtain ⟨z, rfl, hz, q⟩ := h
    refine ⟨_, (pss_cons (ps_for PassesOwn.never rfl (pi_str (pv 0)) (pg_name (i := 1) sc_has_plain_characters.nd rfl (Or.inl rfl))
        (pss_cons (ps_set (i := 2) sc_has_plain_characters.nd rfl (Or.inl rfl) (pe_callB call_ord (by rfl) T.n_ord (by decide +kernel) (pa_cons (pv 1) pa_nil)))
        (pss_one (ps_if (PW.pt (pw_or (pt_cmpR op_lt (pv 2) (pe_glob (v := .int 32) (by rfl) T.c_SPACE ⟨_, rfl⟩) (nomark _)) (pw_or (pt_cmpR op_gt (pv 2) (pe_glob (v := .int 126) (by rfl) T.c_TILDE ⟨_, rfl⟩) (nomark _)) (pw_or1 (pt_cmpR op_eq (pv 2) (pe_glob (v := .int 37) (by rfl) T.c_PERCENT ⟨_, rfl⟩) (nomark _)))))) (pss_one (ps_ret pe_bl)) pss_nil))))
      (pss_one (ps_ret pe_bl))), ?_⟩
    refine ⟨_, rfl, z, rfl, for_it walk_str (fun i σ H2 => H = H2 ∧ (z.cps.toList.take i).all plainC = true ∧ ∃ x1 x2, σ = [some (.str z), x1, x2]) ⟨rfl, rfl, none, none, rfl⟩ (fun _ _ _ _ _ => trivial) ?_ ?_⟩
    · rintro i x σ _ _ hi ⟨rfl, ha, x1, x2, rfl⟩ ⟨rfl, c, hc, rfl⟩
      have hm := all_take (f := plainC) (cps_at hc)
      rw [ha, Bool.true_and] at hm
      have hno : plainC c = false → plainS z = false := fun h => by
        unfold plainS
        rw [List.all_eq_false]
        exact ⟨c, List.mem_of_getElem? (cps_at hc), by rw [h]; simp⟩
      refine ⟨_, rfl, _, rfl, rfl, _, rfl, _, _, rfl, rfl, _, rfl, ifd (fun h1 => ?_) (fun h1 => ?_)⟩
      · refine (if_pos rfl).mpr ?_
        have : plainC c = false := by
          unfold plainC
          have h1' : (c : Int) < 32 := h1
          simp [show c < 32 by omega]
        rw [hno this] at q
        exact q
      · refine ⟨_, rfl, _, _, rfl, rfl, _, rfl, ifd (fun h2 => ?_) (fun h2 => ?_)⟩
        · refine (if_pos rfl).mpr ?_
          have : plainC c = false := by
            unfold plainC
            have h2' : (126 : Int) < (c : Int) := h2
            simp [show 126 < c by omega]
          rw [hno this] at q
          exact q
        · refine ⟨_, rfl, rfl, _, rfl, ifd (fun h3 => ?_) (fun h3 => ?_)⟩
          · have h3' : ((c : Nat) : Int) = 37 := V.int.inj h3
            have : plainC c = false := by
              unfold plainC
              simp [show c = 37 by omega]
            rw [hno this] at q
            exact q
          · have h3' : ¬ ((c : Nat) : Int) = 37 := fun z => h3 (by show V.int _ = V.int _; rw [← z]; rfl)
            have h1' : ¬ (c : Int) < 32 := h1
            have h2' : ¬ (126 : Int) < (c : Int) := h2
            refine ⟨rfl, ?_, _, _, rfl⟩
            rw [hm]
            unfold plainC
            simp only [Bool.not_eq_true', Bool.or_eq_false_iff, decide_eq_false_iff_not]
            omega
    · rintro σ _ ⟨rfl, ha, x1, x2, rfl⟩
      rw [sizeL, List.take_length] at ha
      have : plainS z = true := ha
      rw [this] at q
      exact q
end
/-! values: the mirror -/
mutual
def pkL : PyData → List Int
  | .none => [0]
  | .bool b => [if b = true then 2 else 1]
  | .int i => if i < 0 then 4 :: enc (-1 - i).toNat else 3 :: enc i.toNat
  | .str x => 5 :: (enc x.length ++ x.cps.toList.map fun (c : Nat) => (c : Int) - 32)
  | .tuple ds => 6 :: (enc ds.length ++ pkA ds)
  | _ => []
def pkA : List PyData → List Int
  | [] => []
  | d :: ds => pkL d ++ pkA ds
end
def bitsOk (i : Int) : Bool := decide (Builtin.Int.intBits i ≤ 3000)
/-! a value, n tuples deep at most -/
mutual
def okV : Nat → PyData → Bool
  | _, .none => true
  | _, .bool _ => true
  | _, .int i => bitsOk i
  | _, .str x => decide (x.length ≤ 60000) && plainS x
  | n + 1, .tuple ds => decide (ds.length ≤ 60000) && okA n ds
  | _, _ => false
def okA : Nat → List PyData → Bool
  | _, [] => true
  | n, d :: ds => okV n d && okA n ds
end
/-! what is asked of a thing that is looked at: its texts and tuples are no longer than a line -/
mutual
def fits : PyData → Bool
  | .str x => decide (x.length ≤ 90000)
  | .tuple ds => decide (ds.length ≤ 90000) && fitsA ds
  | .list _ => true
  | .dict _ => false
  | _ => true
def fitsA : List PyData → Bool
  | [] => true
  | d :: ds => fits d && fitsA ds
end
theorem okA_at {n : Nat} : ∀ {ds : List PyData} {i : Nat} {d : PyData}, okA n ds = true → ds[i]? = some d → okV n d = true
  | [], i, _, _, h => by simp at h
  | d :: ds, 0, _, h, e => by
    simp only [List.getElem?_cons_zero, Option.some.injEq] at e
    subst e
    exact (Bool.and_eq_true_iff.mp (show (okV n d && okA n ds) = true by simpa [okA] using h)).1
  | d :: ds, i + 1, _, h, e => okA_at (i := i) ((Bool.and_eq_true_iff.mp (show (okV n d && okA n ds) = true by simpa [okA] using h)).2) (by simpa using e)
theorem okA_take {n i : Nat} : ∀ {ds : List PyData} {d : PyData}, ds[i]? = some d → okA n (ds.take (i + 1)) = (okA n (ds.take i) && okV n d) := by
  induction i with
  | zero =>
    intro ds d h
    cases ds with
    | nil => simp at h
    | cons e ds =>
      simp only [List.getElem?_cons_zero, Option.some.injEq] at h
      subst h
      simp [okA]
  | succ i ih =>
    intro ds d h
    cases ds with
    | nil => simp at h
    | cons e ds =>
      simp only [List.getElem?_cons_succ] at h
      rw [List.take_succ_cons, List.take_succ_cons]
      show (okV n e && okA n (ds.take (i + 1))) = ((okV n e && okA n (ds.take i)) && okV n d)
      rw [ih h, Bool.and_assoc]
theorem okA_no {n i : Nat} {ds : List PyData} {d : PyData} (h : ds[i]? = some d) (hd : okV n d = false) : okA n ds = false := by
  cases e : okA n ds with
  | false => rfl
  | true => rw [okA_at e h] at hd; cases hd
theorem fitsA_at : ∀ {ds : List PyData} {i : Nat} {d : PyData}, fitsA ds = true → ds[i]? = some d → fits d = true
  | [], i, _, _, h => by simp at h
  | d :: ds, 0, _, h, e => by
    simp only [List.getElem?_cons_zero, Option.some.injEq] at e
    subst e
    exact (Bool.and_eq_true_iff.mp (show (fits d && fitsA ds) = true by simpa [fitsA] using h)).1
  | d :: ds, i + 1, _, h, e => fitsA_at (i := i) ((Bool.and_eq_true_iff.mp (show (fits d && fitsA ds) = true by simpa [fitsA] using h)).2) (by simpa using e)
theorem pkA_take {i : Nat} : ∀ {ds : List PyData} {d : PyData}, ds[i]? = some d → pkA (ds.take (i + 1)) = pkA (ds.take i) ++ pkL d := by
  induction i with
  | zero =>
    intro ds d h
    cases ds with
    | nil => simp at h
    | cons e ds =>
      simp only [List.getElem?_cons_zero, Option.some.injEq] at h
      subst h
      simp [pkA]
  | succ i ih =>
    intro ds d h
    cases ds with
    | nil => simp at h
    | cons e ds =>
      simp only [List.getElem?_cons_succ] at h
      rw [List.take_succ_cons, List.take_succ_cons]
      show pkL e ++ pkA (ds.take (i + 1)) = (pkL e ++ pkA (ds.take i)) ++ pkL d
      rw [ih h, List.append_assoc]
theorem pkA_pre {i : Nat} : ∀ {ds : List PyData}, (pkA (ds.take i)).length ≤ (pkA ds).length := fun {ds} => by
  induction ds generalizing i with
  | nil => simp
  | cons d ds ih =>
    cases i with
    | zero => simp [pkA]
    | succ i =>
      rw [List.take_succ_cons]
      show (pkL d ++ pkA (ds.take i)).length ≤ (pkL d ++ pkA ds).length
      rw [List.length_append, List.length_append]
      have := ih (i := i)
      omega
theorem pkL_at {i : Nat} {ds : List PyData} {d : PyData} (h : ds[i]? = some d) : (pkA (ds.take i)).length + (pkL d).length ≤ (pkA ds).length := by
  have := pkA_pre (i := i + 1) (ds := ds)
  rw [pkA_take h, List.length_append] at this
  exact this
/-! isinstance of data -/
def kindOf : PyData → String
  | .none => "NoneType"
  | .bool _ => "bool"
  | .int _ => "int"
  | .str _ => "str"
  | .list _ => "list"
  | .tuple _ => "tuple"
  | .dict _ => "dict"
theorem dp_tyx {K : PySem.W.Frag} {H : Hp} {v : V} {d : PyData} (h : Dp K H v d) : TyX K H v (.type (kindOf d)) := by
  cases h with
  | non => exact .base .non
  | bl b => exact .base (.bl b)
  | int i => exact .base (.int i)
  | str x => exact .base (.str x)
  | lst h _ => exact tyx_l h
  | tup h _ => exact tyx_t h
def isK (k t : String) : Bool := k == t || (k == "bool" && t == "int")
def kinds6 : List String := ["NoneType", "bool", "int", "str", "list", "tuple"]
theorem kind_in (d : PyData) : kindOf d = "dict" ∨ kindOf d ∈ kinds6 := by
  cases d <;> first | exact .inl rfl | exact .inr (by unfold kindOf kinds6; simp)
theorem kit_all : ∀ k ∈ kinds6, ∀ t ∈ ["bool", "int", "str", "tuple", "list"], kitB k t = some (isK k t) := by decide +kernel
theorem dp_nodict {K : PySem.W.Frag} {H : Hp} {v : V} {d : PyData} (h : Dp K H v d) : kindOf d ∈ kinds6 := by
  cases h <;> (unfold kindOf kinds6; simp)
theorem isi_d {K : PySem.W.Frag} {H : Hp} {v : V} {d : PyData} {t : String} {Q : VK} (h : Dp K H v d) (ht : t ∈ ["bool", "int", "str", "tuple", "list"]) (q : Q (.bl (isK (kindOf d) t)) H) : rIsi K [v, .ty t] H Q :=
  ⟨v, .ty t, .type (kindOf d), .type t, isK (kindOf d) t, rfl, .ty _, dp_tyx h, kit_ty (kit_all _ (dp_nodict h) _ ht), q⟩
theorem tisi {K : PySem.W.Frag} {σ : L2.St} {H : Hp} {Q : Bool → Hp → Prop} {i : Nat} {v : V} {d : PyData} {t : String} (hv : σ[i]? = some (some v)) (hd : Dp K H v d) (q : Q (isK (kindOf d) t) H) (ht : t ∈ ["bool", "int", "str", "tuple", "list"] := by simp) :
    tB (tCB (rIsi K) (tCons (tVar i) (tCons (tC (.ty t)) tNil))) σ H Q := ⟨v, hv, (isi_d hd ht ⟨_, rfl, q⟩ : rIsi K [v, .ty t] H (fun x H1 => ∃ c, x = .bl c ∧ Q c H1))⟩
theorem okV_non (n : Nat) : okV n .none = true := by cases n <;> simp [okV]
theorem okV_bl (n : Nat) (b : Bool) : okV n (.bool b) = true := by cases n <;> simp [okV]
theorem okV_int (n : Nat) (i : Int) : okV n (.int i) = decide (((Builtin.Int.intBits i : Nat) : Int) ≤ 3000) := by
  have : okV n (.int i) = bitsOk i := by cases n <;> simp [okV]
  rw [this]
  unfold bitsOk
  rw [decide_eq_decide]
  omega
theorem okV_str (n : Nat) (x : Str) : okV n (.str x) = (decide (((x.length : Nat) : Int) ≤ 60000) && plainS x) := by
  have : okV n (.str x) = (decide (x.length ≤ 60000) && plainS x) := by cases n <;> simp [okV]
  rw [this]
  congr 1
  rw [decide_eq_decide]
  omega
theorem okV_lst (n : Nat) (ds : List PyData) : okV n (.list ds) = false := by cases n <;> simp [okV]
theorem okV_tup0 (ds : List PyData) : okV 0 (.tuple ds) = false := by simp [okV]
theorem okV_tup (n : Nat) (ds : List PyData) : okV (n + 1) (.tuple ds) = (decide (ds.length ≤ 60000) && okA n ds) := by simp [okV]
theorem fits_tup {ds : List PyData} (h : fits (.tuple ds) = true) : ds.length ≤ 90000 ∧ fitsA ds = true := by
  simp only [fits, Bool.and_eq_true, decide_eq_true_eq] at h
  exact h
theorem fits_str {x : Str} (h : fits (.str x) = true) : x.length ≤ 90000 := by
  simp only [fits, decide_eq_true_eq] at h
  exact h
def spW (K : PySem.W.Frag) : Nat → Sp
  | 0 => fun _ _ _ _ => False
  | n + 1 => fun vs H Q _ => ∃ (v : V) (d : PyData), vs = [v, .int (20 - (n : Int))] ∧ n ≤ 20 ∧ Dp K H v d ∧ fits d = true ∧ Q (.bl (okV n d)) H
def sp_isv (K : PySem.W.Frag) : Sp := fun vs H Q _ => ∃ (v : V) (d : PyData), vs = [v] ∧ Dp K H v d ∧ fits d = true ∧ Q (.bl (okV 20 d)) H
section
variable {P : Program} {w : World} {K : PySem.W.Frag} {mg : Str → Option Value} {base : Heap}
theorem okn__is_value_within (T : TX K mg) : ∀ n : Nat, FnOk P w K mg base CX0 (n + 1) T.a__is_value_within T.d__is_value_within ["value", "depth"] (spW K n) := by
  intro n
  induction n with
  | zero => exact T.F__is_value_within.ok sc__is_value_within (fun vs H Q E h => h.elim) (fun cdv A outer s H vs Q E hr h => h.elim)
  | succ n ih__is_value_within =>
    refine T.F__is_value_within.ok sc__is_value_within (fun vs H Q E h => ?_) (fun cdv A outer s H vs Q E hr h => ?_)
    · obtain ⟨v, d, rfl, _⟩ := h
      rfl
    · obtain ⟨v, d, rfl, hn, hd, hf, q⟩ := h
      refine ⟨_, (pss_cons (ps_if (PW.pt (pw_or (pt_cmpR op_isN (pv 0) pe_non (nomark _)) (pw_or1 (pt_val (pe_callB call_isi (by rfl) T.n_isinstance (by decide +kernel) (pa_cons (pv 0) (pa_cons (pe_bltn (v := .ty "bool") (u := .type "bool") (by rfl) T.n_bool (by decide +kernel) rfl) pa_nil))))))) (pss_one (ps_ret pe_bl)) pss_nil)
      (pss_cons (ps_if (pt_val (pe_callB call_isi (by rfl) T.n_isinstance (by decide +kernel) (pa_cons (pv 0) (pa_cons (pe_bltn (v := .ty "int") (u := .type "int") (by rfl) T.n_int (by decide +kernel) rfl) pa_nil)))) (pss_one (ps_ret (pe_cmpR op_le (pe_bits (pv 0)) (pe_glob (v := .int 3000) (by rfl) T.c_MOST_BITS ⟨_, rfl⟩) (nomark _)))) pss_nil)
      (pss_cons (ps_if (pt_val (pe_callB call_isi (by rfl) T.n_isinstance (by decide +kernel) (pa_cons (pv 0) (pa_cons (pe_bltn (v := .ty "str") (u := .type "str") (by rfl) T.n_str (by decide +kernel) rfl) pa_nil)))) (pss_one (ps_ret (pe_and (pe_cmpR op_le (pe_callB call_len (by rfl) T.n_len PySem.boot_len (pa_cons (pv 0) pa_nil)) (pe_glob (v := .int 60000) (by rfl) T.c_MOST_LENGTH ⟨_, rfl⟩) (nomark _)) (pe_one (pe_call (ok_has_plain_characters T) (hr.mono (by omega)) (by rfl) T.g_has_plain_characters T.F_has_plain_characters.kp T.b_has_plain_characters .nil pass0 (pa_cons (pv 0) pa_nil)))))) pss_nil)
      (pss_cons (ps_if (PW.pt (pw_or (pt_not (pt_val (pe_callB call_isi (by rfl) T.n_isinstance (by decide +kernel) (pa_cons (pv 0) (pa_cons (pe_bltn (v := .ty "tuple") (u := .type "tuple") (by rfl) T.n_tuple (by decide +kernel) rfl) pa_nil))))) (pw_or (pt_cmpR op_eq (pv 1) (pe_glob (v := .int 20) (by rfl) T.c_MOST_DEPTH ⟨_, rfl⟩) (nomark _)) (pw_or1 (pt_cmpR op_gt (pe_callB call_len (by rfl) T.n_len PySem.boot_len (pa_cons (pv 0) pa_nil)) (pe_glob (v := .int 60000) (by rfl) T.c_MOST_LENGTH ⟨_, rfl⟩) (nomark _)))))) (pss_one (ps_ret pe_bl)) pss_nil)
      (pss_cons (ps_for PassesOwn.never rfl (pi_tup (pv 0)) (pg_name (i := 2) sc__is_value_within.nd rfl (Or.inl rfl))
        (pss_one (ps_if (pt_not (pt_val (pe_call ih__is_value_within (hr.mono (by omega)) (by rfl) T.g__is_value_within T.F__is_value_within.kp T.b__is_value_within .nil pass0 (pa_cons (pv 2) (pa_cons (pe_op op_add (pv 1) pe_int) pa_nil))))) (pss_one (ps_ret pe_bl)) pss_nil)))
      (pss_one (ps_ret pe_bl))))))), ?_⟩
      dsimp only [tNext, tSeq, tIfS]
      refine or_use (x := decide (v = .non)) (y := isK (kindOf d) "bool") (fun R r => ⟨_, rfl, rfl, _, rfl, r⟩) (fun R r => tisi rfl hd r) ?_
      cases hd with
      | non =>
        rw [okV_non] at q
        exact ifbt rfl q
      | bl b =>
        rw [okV_bl] at q
        exact ifbt rfl q
      | int i =>
        rw [okV_int] at q
        refine ifbf rfl (tisi rfl (.int i) (ifbt rfl ?_))
        exact ⟨_, rfl, i, rfl, _, _, rfl, rfl, q⟩
      | str x =>
        rw [okV_str] at q
        have hx := fits_str hf
        refine ifbf rfl (tisi rfl (.str x) (ifbf rfl (tisi rfl (.str x) (ifbt rfl ?_))))
        refine ⟨_, rfl, _, _, rfl, ⟨sz (by omega), rfl⟩, _, _, rfl, rfl, _, rfl, ?_⟩
        by_cases hc : ((x.length : Nat) : Int) ≤ 60000
        · rw [decide_eq_true hc, Bool.true_and] at q
          exact ift hc ⟨_, rfl, x, rfl, by omega, q⟩
        · rw [decide_eq_false hc, Bool.false_and] at q
          exact iff0 hc q
      | lst h a =>
        rw [okV_lst] at q
        refine ifbf rfl (tisi rfl (.lst h a) (ifbf rfl (tisi rfl (.lst h a) (ifbf rfl ?_))))
        exact tisi rfl (.lst h a) ((if_pos rfl).mpr (ifbt rfl q))
      | @tup p xs ds h a =>
        obtain ⟨hl, hfa⟩ := fits_tup hf
        have hxl := dpa_len a
        refine ifbf rfl (tisi rfl (.tup h a) (ifbf rfl (tisi rfl (.tup h a) (ifbf rfl ?_))))
        refine or_use (x := false) (y := decide (n = 0) || decide ((ds.length : Int) > 60000)) (fun R r => tisi rfl (.tup h a) r) (fun R r => or_use (x := decide (n = 0)) (y := decide ((ds.length : Int) > 60000)) (fun R r => ⟨_, rfl, rfl, _, rfl, ?_⟩) (fun R r => ⟨_, rfl, _, _, rfl, .inr ⟨_, h, rfl⟩, _, _, rfl, rfl, _, rfl, ?_⟩) r) ?_
        · by_cases e : n = 0
          · rw [decide_eq_true e] at r
            rw [decide_eq_true (by rw [e]; rfl)]
            exact r
          · rw [decide_eq_false e] at r
            rw [decide_eq_false (fun z => e (by have := V.int.inj z; omega))]
            exact r
        · rw [hxl]
          exact r
        cases n with
        | zero =>
          rw [okV_tup0] at q
          exact ifbt rfl q
        | succ m =>
          rw [okV_tup] at q
          have e20 : (20 : Int) - ((m + 1 : Nat) : Int) + 1 = 20 - (m : Int) := by omega
          by_cases hl2 : ds.length ≤ 60000
          · rw [decide_eq_true hl2, Bool.true_and] at q
            refine ifbf (by simp; omega) ?_
            refine ⟨_, rfl, p, rfl, ⟨_, h⟩, for_tup (K := K) (a := p) (xs := xs) (fun i σ G => H = G ∧ okA m (ds.take i) = true ∧ ∃ x2, σ = [some (.ref p), some (.int (20 - ((m + 1 : Nat) : Int))), x2]) ⟨rfl, by simp [okA], none, rfl⟩ (fun i σ G _ ⟨e, _⟩ => by rw [← e]; exact h) ?_ ?_⟩
            · rintro i x σ _ hx ⟨rfl, hok, x2, rfl⟩
              obtain ⟨d, hdi, hdx⟩ := dpa_at a hx
              refine ⟨_, rfl, _, rfl, _, _, rfl, rfl, x, d, congrArg (fun z => [x, V.int z]) e20, by omega, hdx, fitsA_at hfa hdi, _, rfl, ?_⟩
              cases ed : okV m d with
              | true => exact ifbf rfl ⟨rfl, by rw [okA_take hdi, hok, ed]; rfl, _, rfl⟩
              | false =>
                rw [okA_no hdi ed] at q
                exact ifbt rfl q
            · rintro σ _ ⟨rfl, hok, x2, rfl⟩
              rw [hxl, List.take_length] at hok
              rw [hok] at q
              exact q
          · rw [decide_eq_false hl2, Bool.false_and] at q
            exact ifbt (by simp; omega) q
theorem ok__is_value_within (T : TX K mg) : FnOk P w K mg base CX0 (22) T.a__is_value_within T.d__is_value_within ["value", "depth"] (spW K 21) := okn__is_value_within T 21
theorem ok_is_value (T : TX K mg) : FnOk P w K mg base CX0 23 T.a_is_value T.d_is_value ["value"] (sp_isv K) := by
  refine T.F_is_value.ok sc_is_value (fun vs H Q E h => ?_) (fun cdv A outer s H vs Q E hr h => ?_)
  · obtain ⟨v, d, rfl, _⟩ := h
    rfl
  · obtain ⟨v, d, rfl, hd, hf, q⟩ := h
    refine ⟨_, (pss_one (ps_ret (pe_call (ok__is_value_within T) (hr.mono (by decide)) (by rfl) T.g__is_value_within T.F__is_value_within.kp T.b__is_value_within .nil pass0 (pa_cons (pv 0) (pa_cons pe_int pa_nil))))), ?_⟩
    exact ⟨_, rfl, v, d, rfl, by decide, hd, hf, q⟩
end
theorem bits_lt {i : Int} (h : ((Builtin.Int.intBits i : Nat) : Int) ≤ 3000) : i.natAbs < Lim := by
  unfold Builtin.Int.intBits at h
  have hL : 2 ^ 3000 ≤ Lim := by
    have : Lim = 2 ^ 3500 := by
      unfold Lim
      rw [show (128 : Nat) = 2 ^ 7 by decide, ← Nat.pow_mul]
    rw [this]
    exact Nat.pow_le_pow_right (by decide) (by decide)
  by_cases h0 : i = 0
  · rw [h0]
    exact Nat.lt_of_lt_of_le (Nat.pow_pos (by decide)) hL
  · have hb : (i == 0) = false := by simpa using h0
    rw [hb] at h
    simp only [Bool.false_eq_true, if_false] at h
    have h1 : i.natAbs.log2 < 3000 := by omega
    exact Nat.lt_of_lt_of_le ((Nat.log2_lt (by omega)).mp h1) hL
theorem enc_small_lim {n : Nat} (h : n ≤ 90000) : n < Lim := Nat.lt_of_le_of_lt h (by
  have : (2 : Nat) ^ 17 ≤ Lim := by
    have : Lim = 2 ^ 3500 := by
      unfold Lim
      rw [show (128 : Nat) = 2 ^ 7 by decide, ← Nat.pow_mul]
    rw [this]
    exact Nat.pow_le_pow_right (by decide) (by decide)
  exact Nat.lt_of_lt_of_le (by decide) this)
def spP (K : PySem.W.Frag) : Nat → Sp
  | 0 => fun _ _ _ _ => False
  | n + 1 => fun vs H Q _ => ∃ (v : V) (d : PyData), vs = [v] ∧ Dp K H v d ∧ okV n d = true ∧ (pkL d).length ≤ 90000 ∧ ∀ p H', H p = none → Same H H' → H' p = some (.lst ((pkL d).map V.int)) → Q (.ref p) H'
theorem none_of {H G : Hp} {p : Addr} (s : Same H G) (h : G p = none) : H p = none := by
  cases e : H p with
  | none => rfl
  | some o => rw [s _ _ e] at h; cases h
/-- a list that is made of a list's head and more -/
theorem cat_new {H : Hp} {a b : Addr} {xs ys : List V} {Q : VK} (ha : H a = some (.lst xs)) (hb : H b = some (.lst ys)) (hl : xs.length + ys.length ≤ 100000) (q : ∀ p, H p = none → Q (.ref p) (upd H p (.lst (xs ++ ys)))) : rCat (.ref a) (.ref b) H Q := ⟨a, b, xs, ys, rfl, rfl, ha, hb, sz hl, q⟩
section
variable {P : Program} {w : World} {K : PySem.W.Frag} {mg : Str → Option Value} {base : Heap}
theorem okn__packed (T : TX K mg) : ∀ n : Nat, FnOk P w K mg base CX0 (n + 1) T.a__packed T.d__packed ["value"] (spP K n) := by
  intro n
  induction n with
  | zero => exact T.F__packed.ok sc__packed (fun vs H Q E h => h.elim) (fun cdv A outer s H vs Q E hr h => h.elim)
  | succ n ih__packed =>
    refine T.F__packed.ok sc__packed (fun vs H Q E h => ?_) (fun cdv A outer s H vs Q E hr h => ?_)
    · obtain ⟨v, d, rfl, _⟩ := h
      rfl
    · obtain ⟨v, d, rfl, hd, hok, hl, q⟩ := h
      refine ⟨_, (pss_cons (ps_if (pt_cmpR op_isN (pv 0) pe_non (nomark _)) (pss_one (ps_ret (pe_lst (pa_cons pe_int pa_nil)))) pss_nil)
      (pss_cons (ps_if (pt_val (pe_callB call_isi (by rfl) T.n_isinstance (by decide +kernel) (pa_cons (pv 0) (pa_cons (pe_bltn (v := .ty "bool") (u := .type "bool") (by rfl) T.n_bool (by decide +kernel) rfl) pa_nil)))) (pss_one (ps_ret (pe_lst (pa_cons (pe_ifExp (pt_val (pv 0)) (pe_glob (v := .int 2) (by rfl) T.c_TRUE_TAG ⟨_, rfl⟩) (pe_glob (v := .int 1) (by rfl) T.c_FALSE_TAG ⟨_, rfl⟩)) pa_nil)))) pss_nil)
      (pss_cons (ps_if (pt_val (pe_callB call_isi (by rfl) T.n_isinstance (by decide +kernel) (pa_cons (pv 0) (pa_cons (pe_bltn (v := .ty "int") (u := .type "int") (by rfl) T.n_int (by decide +kernel) rfl) pa_nil)))) (pss_cons (ps_if (pt_cmpR op_lt (pv 0) pe_int (nomark _)) (pss_one (ps_ret (pe_op op_cat (pe_lst (pa_cons (pe_glob (v := .int 4) (by rfl) T.c_NEGATIVE_TAG ⟨_, rfl⟩) pa_nil)) (pe_call (ok_put_number T) (hr.mono (by omega)) (by rfl) T.g_put_number T.F_put_number.kp T.b_put_number .nil pass0 (pa_cons (pe_op op_sub (pe_un un_neg pe_int) (pv 0)) pa_nil))))) pss_nil)
        (pss_one (ps_ret (pe_op op_cat (pe_lst (pa_cons (pe_glob (v := .int 3) (by rfl) T.c_NATURAL_TAG ⟨_, rfl⟩) pa_nil)) (pe_call (ok_put_number T) (hr.mono (by omega)) (by rfl) T.g_put_number T.F_put_number.kp T.b_put_number .nil pass0 (pa_cons (pv 0) pa_nil)))))) pss_nil)
      (pss_cons (ps_if (pt_val (pe_callB call_isi (by rfl) T.n_isinstance (by decide +kernel) (pa_cons (pv 0) (pa_cons (pe_bltn (v := .ty "str") (u := .type "str") (by rfl) T.n_str (by decide +kernel) rfl) pa_nil)))) (pss_one (ps_ret (pe_op op_cat (pe_op op_cat (pe_lst (pa_cons (pe_glob (v := .int 5) (by rfl) T.c_TEXT_TAG ⟨_, rfl⟩) pa_nil)) (pe_call (ok_put_number T) (hr.mono (by omega)) (by rfl) T.g_put_number T.F_put_number.kp T.b_put_number .nil pass0 (pa_cons (pe_callB call_len (by rfl) T.n_len PySem.boot_len (pa_cons (pv 0) pa_nil)) pa_nil))) (pe_lc (own := [("character", 3)]) (g := gName 3) (tt := tYes) (by rfl) sc__packed.nd (pi_str (pv 0)) (blkOk_by (own := [("character", 3)]) (N := ["value", "row", "member", "character"]) (sc := defScope s__packed) (by decide +kernel)) (fun _ _ _ _ _ => pg_name (i := 3) sc__packed.nd rfl (Or.inl rfl)) (fun _ _ _ _ _ => pts_nil) (fun _ _ _ _ _ => (pe_op op_sub (pe_callB call_ord (by rfl) T.n_ord (by decide +kernel) (pa_cons (pv 3) pa_nil)) (pe_glob (v := .int 32) (by rfl) T.c_SPACE ⟨_, rfl⟩))))))) pss_nil)
      (pss_cons (ps_set (i := 1) sc__packed.nd rfl (Or.inl rfl) (pe_op op_cat (pe_lst (pa_cons (pe_glob (v := .int 6) (by rfl) T.c_TUPLE_TAG ⟨_, rfl⟩) pa_nil)) (pe_call (ok_put_number T) (hr.mono (by omega)) (by rfl) T.g_put_number T.F_put_number.kp T.b_put_number .nil pass0 (pa_cons (pe_callB call_len (by rfl) T.n_len PySem.boot_len (pa_cons (pv 0) pa_nil)) pa_nil))))
      (pss_cons (ps_for PassesOwn.never rfl (pi_tup (pv 0)) (pg_name (i := 2) sc__packed.nd rfl (Or.inl rfl))
        (pss_one (ps_expr (pe_bm PySem.F.plainAttrs_list PySem.F.slot_list_extend PySem.F.type_list_extend mt_extend (pv 1) (pa_cons (pe_call ih__packed (hr.mono (by omega)) (by rfl) T.g__packed T.F__packed.kp T.b__packed .nil pass0 (pa_cons (pv 2) pa_nil)) pa_nil)))))
      (pss_one (ps_ret (pv 1))))))))), ?_⟩
      refine ⟨_, rfl, rfl, _, rfl, ?_⟩
      cases hd with
      | non =>
        refine ifbt rfl ⟨(by show 1 ≤ sizeLine; decide), fun p hp => q p _ hp (same_upd hp) ?_⟩
        rw [upd_same]; rfl
      | bl b =>
        refine ifbf rfl (tisi rfl (.bl b) (ifbt rfl ?_))
        refine ⟨_, rfl, b, rfl, ?_⟩
        cases b with
        | true =>
          refine (if_pos rfl).mpr ⟨(by show 1 ≤ sizeLine; decide), fun p hp => q p _ hp (same_upd hp) ?_⟩
          rw [upd_same]; rfl
        | false =>
          refine (if_neg (by decide)).mpr ⟨(by show 1 ≤ sizeLine; decide), fun p hp => q p _ hp (same_upd hp) ?_⟩
          rw [upd_same]; rfl
      | int i =>
        rw [okV_int] at hok
        have hb := bits_lt (of_decide_eq_true hok)
        refine ifbf rfl (tisi rfl (.int i) (ifbf rfl (tisi rfl (.int i) (ifbt rfl ?_))))
        refine ⟨_, rfl, _, _, rfl, rfl, _, rfl, ifd (fun hn => ?_) (fun hn => ?_)⟩
        · refine ⟨(by show 1 ≤ sizeLine; decide), fun a ha => ?_⟩
          have s1 := same_upd (o := .lst [.int 4]) ha
          refine ⟨1, rfl, _, rfl, _, _, rfl, rfl, (-1 - i).toNat, congrArg (fun z => [V.int z]) (by omega), by omega, fun b G hbn s2 eb => ?_⟩
          have ea := s2 _ _ (upd_same (H := H) (a := a) (o := .lst [.int 4]))
          have hel := enc_lim (show (-1 - i).toNat < Lim by omega)
          refine cat_new ea eb (by rw [List.length_map]; simp only [List.length_cons, List.length_nil]; omega) fun p hp => q p _ ?_ ((s1.trans s2).trans (same_upd hp)) ?_
          · exact none_of (s1.trans s2) hp
          · rw [upd_same]
            have : pkL (.int i) = 4 :: enc (-1 - i).toNat := by simp [pkL, hn]
            rw [this]
            rfl
        · refine ⟨(by show 1 ≤ sizeLine; decide), fun a ha => ?_⟩
          have s1 := same_upd (o := .lst [.int 3]) ha
          refine ⟨_, rfl, i.toNat, congrArg (fun z => [V.int z]) (by omega), by omega, fun b G hbn s2 eb => ?_⟩
          have ea := s2 _ _ (upd_same (H := H) (a := a) (o := .lst [.int 3]))
          have hel := enc_lim (show i.toNat < Lim by omega)
          refine cat_new ea eb (by rw [List.length_map]; simp only [List.length_cons, List.length_nil]; omega) fun p hp => q p _ (none_of (s1.trans s2) hp) ((s1.trans s2).trans (same_upd hp)) ?_
          rw [upd_same]
          have : pkL (.int i) = 3 :: enc i.toNat := by simp [pkL, hn]
          rw [this]
          rfl
      | str x =>
        rw [okV_str] at hok
        obtain ⟨hx1, hx2⟩ := Bool.and_eq_true_iff.mp hok
        have hx : x.length ≤ 60000 := by have := of_decide_eq_true hx1; omega
        refine ifbf rfl (tisi rfl (.str x) (ifbf rfl (tisi rfl (.str x) (ifbf rfl (tisi rfl (.str x) (ifbt rfl ?_))))))
        refine ⟨(by show 1 ≤ sizeLine; decide), fun a ha => ?_⟩
        have s1 := same_upd (o := .lst [.int 5]) ha
        refine ⟨_, rfl, _, _, rfl, ⟨sz (by omega), rfl⟩, x.length, rfl, enc_small_lim (by omega), fun b G hbn s2 eb => ?_⟩
        have ea := s2 _ _ (upd_same (H := H) (a := a) (o := .lst [.int 5]))
        have hel := enc_lim (enc_small_lim (show x.length ≤ 90000 by omega))
        refine cat_new ea eb (by rw [List.length_map]; simp only [List.length_cons, List.length_nil]; omega) fun p hp => ?_
        have s3 := (s1.trans s2).trans (same_upd (o := .lst ([V.int 5] ++ (enc x.length).map V.int)) hp)
        have ep : (upd G p (.lst ([V.int 5] ++ (enc x.length).map V.int))) p = some (.lst ([V.int 5] ++ (enc x.length).map V.int)) := upd_same
        generalize upd G p (.lst ([V.int 5] ++ (enc x.length).map V.int)) = G1 at s3 ep
        refine ⟨_, rfl, x, rfl, fun D hD => ?_⟩
        refine lc_it walk_str (fun i G => Same G1 G ∧ G D = some (.lst (((x.cps.toList.take i).map fun (c : Nat) => (c : Int) - 32).map V.int))) ⟨same_upd hD, upd_same⟩ (fun _ _ _ _ => trivial) ?_ ?_
        · rintro i y G2 G3 hi ⟨s4, e4⟩ ⟨rfl, c, hc, rfl⟩
          refine ⟨rfl, ?_⟩
          dsimp only [tYes]
          refine (if_pos rfl).mpr ?_
          have hxl : x.cps.toList.length ≤ 60000 := by rw [← zlen]; exact hx
          refine ⟨_, rfl, _, rfl, rfl, _, _, rfl, rfl, _, e4, szl (by rw [List.length_map, List.length_map, List.length_take]; omega), same_put s4 hD, ?_⟩
          rw [upd_same, take_more (cps_at hc), List.map_append, List.map_append]
          rfl
        · rintro G2 ⟨s4, e4⟩
          rw [sizeL, List.take_length] at e4
          have hxl : x.cps.toList.length ≤ 60000 := by rw [← zlen]; exact hx
          refine cat_new (s4 _ _ ep) e4 (by simp only [List.length_map, List.length_append, List.length_cons, List.length_nil]; omega) fun p2 hp2 => q p2 _ (none_of (s3.trans s4) hp2) ((s3.trans s4).trans (same_upd hp2)) ?_
          rw [upd_same]
          simp [pkL]
      | lst h a => rw [okV_lst] at hok; cases hok
      | @tup p xs ds h a =>
        cases n with
        | zero => rw [okV_tup0] at hok; cases hok
        | succ m =>
          rw [okV_tup] at hok
          obtain ⟨hl1, hoa⟩ := Bool.and_eq_true_iff.mp hok
          have hdl : ds.length ≤ 60000 := of_decide_eq_true hl1
          have hxl := dpa_len a
          have hpk : pkL (.tuple ds) = 6 :: (enc ds.length ++ pkA ds) := by simp [pkL]
          rw [hpk] at hl q
          have hl2 : (pkA ds).length + (enc ds.length).length + 1 ≤ 90000 := by
            simp only [List.length_cons, List.length_append] at hl
            omega
          refine ifbf rfl (tisi rfl (.tup h a) (ifbf rfl (tisi rfl (.tup h a) (ifbf rfl (tisi rfl (.tup h a) (ifbf rfl ?_))))))
          refine ⟨(by show 1 ≤ sizeLine; decide), fun a1 ha => ?_⟩
          have s1 := same_upd (o := .lst [.int 6]) ha
          refine ⟨_, rfl, _, _, rfl, .inr ⟨_, sqt_same s1 h, rfl⟩, ds.length, by rw [hxl]; rfl, enc_small_lim (by omega), fun b G hbn s2 eb => ?_⟩
          have ea := s2 _ _ (upd_same (H := H) (a := a1) (o := .lst [.int 6]))
          have hel := enc_lim (enc_small_lim (show ds.length ≤ 90000 by omega))
          refine cat_new ea eb (by rw [List.length_map]; simp only [List.length_cons, List.length_nil]; omega) fun r hr1 => ?_
          have s3 := (s1.trans s2).trans (same_upd (o := .lst ([V.int 6] ++ (enc ds.length).map V.int)) hr1)
          have er : (upd G r (.lst ([V.int 6] ++ (enc ds.length).map V.int))) r = some (.lst ((6 :: enc ds.length).map V.int)) := upd_same
          have hrH := none_of (s1.trans s2) hr1
          generalize upd G r (.lst ([V.int 6] ++ (enc ds.length).map V.int)) = G1 at s3 er
          refine ⟨_, rfl, p, rfl, ⟨_, sqt_same s3 h⟩, for_tup (K := K) (a := p) (xs := xs) (fun i σ G => ∃ x2, σ = [some (.ref p), some (.ref r), x2, none] ∧ Same H G ∧ G r = some (.lst (((6 :: enc ds.length) ++ pkA (ds.take i)).map V.int))) ⟨none, rfl, s3, by rw [er]; simp [pkA]⟩ (fun i σ G _ ⟨_, _, s, _⟩ => sqt_same s h) ?_ ?_⟩
          · rintro i x σ G2 hx ⟨x2, rfl, s4, e4⟩
            obtain ⟨d, hdi, hdx⟩ := dpa_at a hx
            have hat := pkL_at hdi
            refine ⟨_, rfl, .inl ⟨rfl, _, sql e4⟩, _, rfl, x, d, rfl, dp_same s4 _ hdx, okA_at hoa hdi, by omega, fun b2 G3 hb2 s5 e5 => ?_⟩
            have e6 := s5 _ _ e4
            refine ⟨r, b2, _, _, rfl, rfl, e6, e5, sz (by simp only [List.length_map, List.length_append, List.length_cons]; omega), ?_⟩
            refine ⟨_, rfl, same_put (s4.trans s5) hrH, ?_⟩
            rw [upd_same, pkA_take hdi, ← List.map_append, List.append_assoc]
          · rintro σ G2 ⟨x2, rfl, s4, e4⟩
            rw [hxl, List.take_length] at e4
            exact ⟨_, rfl, q r G2 hrH s4 (by rw [e4]; rfl)⟩
theorem ok__packed (T : TX K mg) : FnOk P w K mg base CX0 (22) T.a__packed T.d__packed ["value"] (spP K 21) := okn__packed T 21
end
/-! reading a value: the mirror -/
inductive TR where
  | ok (d : PyData) (n : Nat)
  | trunc
  | malf
inductive T3 where
  | ok (cs : List Nat)
  | trunc
  | malf
def txF : Nat → List Int → List Nat → T3
  | 0, _, acc => .ok acc
  | _ + 1, [], _ => .trunc
  | k + 1, b :: bs, acc => if 95 ≤ b ∨ b = 5 then .malf else txF k bs (acc ++ [(b + 32).toNat])
def memF (f : List Int → TR) : Nat → List Int → List PyData → Nat → TR
  | 0, _, acc, n => .ok (.tuple acc) n
  | k + 1, bs, acc, n => match f bs with
    | .ok d c => memF f k (bs.drop c) (acc ++ [d]) (n + c)
    | .trunc => .trunc
    | .malf => .malf
def TR.shift (j : Nat) : TR → TR
  | .ok d n => .ok d (n + j)
  | .trunc => .trunc
  | .malf => .malf
theorem memF_shift (f : List Int → TR) (j : Nat) : ∀ (k : Nat) (bs : List Int) (acc : List PyData) (n : Nat), memF f k bs acc (n + j) = (memF f k bs acc n).shift j := by
  intro k
  induction k with
  | zero => intro bs acc n; rfl
  | succ k ih =>
    intro bs acc n
    unfold memF
    cases f bs with
    | ok d c =>
      show memF f k (bs.drop c) (acc ++ [d]) (n + j + c) = _
      rw [show n + j + c = n + c + j by omega]
      exact ih _ _ _
    | trunc => rfl
    | malf => rfl
def constD (t : Int) : PyData := if t = 0 then .none else .bool (decide (t = 2))
def chkI (i : Int) (k : Nat) : TR := if bitsOk i = true then .ok (.int i) k else .malf
def tvT (r : T3) (k : Nat) : TR := match r with
  | .ok cs => .ok (.str ⟨cs.toArray⟩) k
  | .trunc => .trunc
  | .malf => .malf
def tvM (mm : Option (List Int → TR)) (n : Nat) (bs : List Int) (k : Nat) : TR := match mm with
  | some f => memF f n bs [] k
  | none => .malf
def tvC (mm : Option (List Int → TR)) (t : Int) (r : List Int) : TR := if 6 < t then .malf else if t ≤ 2 then .ok (constD t) 1 else if t = 6 ∧ mm.isNone = true then .malf else
    match rd r with
    | .trunc => .trunc
    | .malf => .malf
    | .num n c => if t = 3 then chkI n (1 + c) else if t = 4 then chkI (-1 - n) (1 + c) else if 60000 < n then .malf
      else if t = 5 then tvT (txF n.toNat (r.drop c) []) (1 + c + n.toNat)
      else tvM mm n.toNat (r.drop c) (1 + c)
def tvB (mm : Option (List Int → TR)) : List Int → TR
  | [] => .trunc
  | t :: r => tvC mm t r
def tv : Nat → List Int → TR
  | 0 => tvB none
  | m + 1 => tvB (some (tv m))
theorem rdGo_len : ∀ (f c : Nat) (acc : Int) (bs : List Int) (n : Int) (k : Nat), rdGo f c acc bs = .num n k → k ≤ c + bs.length ∧ c < k
  | 0, _, _, _, _, _, h => by cases h
  | _ + 1, _, _, [], _, _, h => by cases h
  | f + 1, c, acc, b :: bs, n, k, h => by
    unfold rdGo at h
    split at h
    · split at h
      · cases h
      · injection h with h1 h2
        rw [List.length_cons]
        omega
    · have := rdGo_len f (c + 1) _ bs n k h
      rw [List.length_cons]
      omega
theorem rdGo_nn : ∀ (f c : Nat) (acc : Int) (bs : List Int) (n : Int) (k : Nat), Bytes bs → 0 ≤ acc → rdGo f c acc bs = .num n k → 0 ≤ n
  | 0, _, _, _, _, _, _, _, h => by cases h
  | _ + 1, _, _, [], _, _, _, _, h => by cases h
  | f + 1, c, acc, b :: bs, n, k, hb, h0, h => by
    have hb0 := hb b List.mem_cons_self
    have hp : (0 : Int) < 128 ^ c := Int.pow_pos (by decide)
    unfold rdGo at h
    split at h
    · split at h
      · cases h
      · injection h with h1 h2
        have := Int.mul_nonneg hb0.1 (Int.le_of_lt hp)
        omega
    · have := Int.mul_nonneg (show (0 : Int) ≤ b - 128 by omega) (Int.le_of_lt hp)
      exact rdGo_nn f (c + 1) _ bs n k (fun x hx => hb x (List.mem_cons_of_mem _ hx)) (by omega) h
theorem txF_len : ∀ (k : Nat) (bs : List Int) (acc cs : List Nat), txF k bs acc = .ok cs → k ≤ bs.length
  | 0, _, _, _, _ => Nat.zero_le _
  | _ + 1, [], _, _, h => by cases h
  | k + 1, b :: bs, acc, cs, h => by
    unfold txF at h
    split at h
    · cases h
    · have := txF_len k bs _ cs h
      rw [List.length_cons]
      omega
theorem memF_len {f : List Int → TR} (hf : ∀ bs d k, f bs = .ok d k → k ≤ bs.length) : ∀ (k : Nat) (bs : List Int) (acc : List PyData) (n : Nat) (d : PyData) (j : Nat), memF f k bs acc n = .ok d j → j ≤ n + bs.length
  | 0, _, _, _, _, _, h => by
    injection h with h1 h2
    omega
  | k + 1, bs, acc, n, d, j, h => by
    unfold memF at h
    cases e : f bs with
    | ok d2 c =>
      rw [e] at h
      have h1 := hf bs d2 c e
      have h2 := memF_len hf k (bs.drop c) _ _ d j h
      rw [List.length_drop] at h2
      omega
    | trunc => rw [e] at h; cases h
    | malf => rw [e] at h; cases h
theorem tvB_len {mm : Option (List Int → TR)} (hm : ∀ f, mm = some f → ∀ bs d k, f bs = .ok d k → k ≤ bs.length) : ∀ (bs : List Int) (d : PyData) (k : Nat), tvB mm bs = .ok d k → k ≤ bs.length
  | [], _, _, h => by cases h
  | t :: r, d, k, h => by
    rw [List.length_cons]
    have h : tvC mm t r = .ok d k := h
    unfold tvC at h
    split at h
    · cases h
    split at h
    · injection h with h1 h2
      omega
    split at h
    · cases h
    cases e : rd r with
    | trunc => rw [e] at h; cases h
    | malf => rw [e] at h; cases h
    | num n c =>
      rw [e] at h
      have hc := (rdGo_len 500 0 0 r n c e).1
      simp only at h
      split at h
      · unfold chkI at h
        split at h
        · injection h with h1 h2; omega
        · cases h
      split at h
      · unfold chkI at h
        split at h
        · injection h with h1 h2; omega
        · cases h
      split at h
      · cases h
      split at h
      · cases e2 : txF n.toNat (r.drop c) [] with
        | ok cs =>
          rw [e2] at h
          unfold tvT at h
          have := txF_len _ _ _ _ e2
          rw [List.length_drop] at this
          injection h with h1 h2
          omega
        | trunc => rw [e2] at h; cases h
        | malf => rw [e2] at h; cases h
      · cases mm with
        | none => cases h
        | some f =>
          have := memF_len (hm f rfl) _ _ _ _ d k h
          rw [List.length_drop] at this
          omega
theorem tv_len : ∀ (m : Nat) (bs : List Int) (d : PyData) (k : Nat), tv m bs = .ok d k → k ≤ bs.length
  | 0 => tvB_len (fun f h => by cases h)
  | m + 1 => tvB_len (fun f h => by injection h with h; subst h; exact tv_len m)
/-! what is read is a value -/
theorem txF_ok : ∀ (k : Nat) (bs : List Int) (acc cs : List Nat), Bytes bs → (∀ c ∈ acc, plainC c = true) → txF k bs acc = .ok cs → (∀ c ∈ cs, plainC c = true) ∧ cs.length = acc.length + k
  | 0, _, acc, cs, _, h0, h => by
    injection h with h
    subst h
    exact ⟨h0, rfl⟩
  | _ + 1, [], _, _, _, _, h => by cases h
  | k + 1, b :: bs, acc, cs, hb, h0, h => by
    unfold txF at h
    split at h
    · cases h
    · rename_i hx
      have hb0 := hb b List.mem_cons_self
      obtain ⟨h1, h2⟩ := txF_ok k bs _ cs (fun x hx => hb x (List.mem_cons_of_mem _ hx)) (fun c hc => by
        rcases List.mem_append.mp hc with z | z
        · exact h0 c z
        · rw [List.mem_singleton] at z
          rw [z]
          unfold plainC
          have e1 : ¬ (b + 32).toNat < 32 := by omega
          have e2 : ¬ 126 < (b + 32).toNat := by omega
          have e3 : ¬ (b + 32).toNat = 37 := by omega
          simp [e1, e2, e3]) h
      exact ⟨h1, by rw [h2, List.length_append]; simp only [List.length_cons, List.length_nil]; omega⟩
theorem okA_app {n : Nat} : ∀ {ds : List PyData} {d : PyData}, okA n ds = true → okV n d = true → okA n (ds ++ [d]) = true
  | [], d, _, h => by simp [okA, h]
  | e :: ds, d, h, h2 => by
    simp only [okA, Bool.and_eq_true] at h
    show okA n (e :: (ds ++ [d])) = true
    simp only [okA, Bool.and_eq_true]
    exact ⟨h.1, okA_app h.2 h2⟩
theorem bytes_drop {bs : List Int} (c : Nat) (h : Bytes bs) : Bytes (bs.drop c) := fun b hb => h b (List.mem_of_mem_drop hb)
theorem memF_ok {f : List Int → TR} {m : Nat} (hf : ∀ bs d k, Bytes bs → f bs = .ok d k → okV m d = true) : ∀ (k : Nat) (bs : List Int) (acc : List PyData) (n : Nat) (d : PyData) (j : Nat), Bytes bs → okA m acc = true → memF f k bs acc n = .ok d j → ∃ ds, d = .tuple ds ∧ okA m ds = true ∧ ds.length = acc.length + k
  | 0, _, acc, _, _, _, _, h0, h => by
    injection h with h1 h2
    exact ⟨acc, h1.symm, h0, rfl⟩
  | k + 1, bs, acc, n, d, j, hb, h0, h => by
    unfold memF at h
    cases e : f bs with
    | ok d2 c =>
      rw [e] at h
      obtain ⟨ds, h1, h2, h3⟩ := memF_ok hf k (bs.drop c) _ _ d j (bytes_drop c hb) (okA_app h0 (hf bs d2 c hb e)) h
      exact ⟨ds, h1, h2, by rw [h3, List.length_append]; simp only [List.length_cons, List.length_nil]; omega⟩
    | trunc => rw [e] at h; cases h
    | malf => rw [e] at h; cases h
theorem tvB_ok {mm : Option (List Int → TR)} {m : Nat} (hm : ∀ f, mm = some f → ∃ j, m = j + 1 ∧ ∀ bs d k, Bytes bs → f bs = .ok d k → okV j d = true) : ∀ (bs : List Int) (d : PyData) (k : Nat), Bytes bs → tvB mm bs = .ok d k → okV m d = true
  | [], _, _, _, h => by cases h
  | t :: r, d, k, hb, h => by
    have hbr : Bytes r := fun x hx => hb x (List.mem_cons_of_mem _ hx)
    have h : tvC mm t r = .ok d k := h
    unfold tvC at h
    split at h
    · cases h
    split at h
    · injection h with h1 h2
      rw [← h1]
      unfold constD
      split
      · exact okV_non m
      · exact okV_bl m _
    split at h
    · cases h
    cases e : rd r with
    | trunc => rw [e] at h; cases h
    | malf => rw [e] at h; cases h
    | num n c =>
      rw [e] at h
      simp only at h
      have hn := rdGo_nn 500 0 0 r n c hbr (by decide) e
      have chk : ∀ (i : Int) (j : Nat), chkI i j = .ok d k → okV m d = true := fun i j h => by
        unfold chkI at h
        split at h
        · rename_i hb
          injection h with h1 h2
          rw [← h1, okV_int]
          unfold bitsOk at hb
          exact decide_eq_true (by have := of_decide_eq_true hb; omega)
        · cases h
      split at h
      · exact chk _ _ h
      split at h
      · exact chk _ _ h
      split at h
      · cases h
      split at h
      · cases e2 : txF n.toNat (r.drop c) [] with
        | ok cs =>
          rw [e2] at h
          unfold tvT at h
          obtain ⟨h1, h2⟩ := txF_ok _ _ _ _ (bytes_drop c hbr) (fun c hc => by cases hc) e2
          injection h with h3 h4
          rw [← h3, okV_str]
          rw [List.length_nil, Nat.zero_add] at h2
          have hl : Str.length ⟨cs.toArray⟩ = cs.length := by show cs.toArray.size = _; simp
          rw [hl, h2, Bool.and_eq_true]
          refine ⟨decide_eq_true (by omega), ?_⟩
          unfold plainS
          rw [List.all_eq_true]
          exact fun x hx => h1 x (by simpa using hx)
        | trunc => rw [e2] at h; cases h
        | malf => rw [e2] at h; cases h
      · cases mm with
        | none => cases h
        | some f =>
          obtain ⟨j, hj, hf⟩ := hm f rfl
          obtain ⟨ds, h1, h2, h3⟩ := memF_ok hf _ _ _ _ d k (bytes_drop c hbr) (by simp [okA]) h
          rw [h1, hj, okV_tup, h2, Bool.and_true]
          refine decide_eq_true ?_
          rw [h3, List.length_nil]
          omega
theorem tv_ok : ∀ (m : Nat) (bs : List Int) (d : PyData) (k : Nat), Bytes bs → tv m bs = .ok d k → okV m d = true
  | 0 => tvB_ok (fun f h => by cases h)
  | m + 1 => tvB_ok (fun f h => ⟨m, rfl, by injection h with h; subst h; exact tv_ok m⟩)
/-! values hold no list: a list may change -/
mutual
theorem dp_off {K : PySem.W.Frag} {G G' : Hp} {o : Addr} {xs : List V} (e : G o = some (.lst xs)) (k : ∀ b w, b ≠ o → G b = some w → G' b = some w) : ∀ (n : Nat) (d : PyData) {v : V}, okV n d = true → Dp K G v d → Dp K G' v d
  | _, _, _, _, .non => .non
  | _, _, _, _, .bl b => .bl b
  | _, _, _, _, .int i => .int i
  | _, _, _, _, .str x => .str x
  | n, .list ds, _, h, .lst _ _ => by rw [okV_lst] at h; cases h
  | 0, .tuple ds, _, h, .tup _ _ => by rw [okV_tup0] at h; cases h
  | n + 1, .tuple ds, _, h, .tup s a => by
    rw [okV_tup, Bool.and_eq_true] at h
    refine .tup ?_ (dpa_off e k n ds h.2 a)
    rcases s with (s | ⟨ob, s⟩) | s
    · exact .inl (.inl (k _ _ (fun z => by rw [z, e] at s; cases s) s))
    · exact .inl (.inr ⟨ob, k _ _ (fun z => by rw [z, e] at s; cases s) s⟩)
    · exact .inr s
theorem dpa_off {K : PySem.W.Frag} {G G' : Hp} {o : Addr} {xs : List V} (e : G o = some (.lst xs)) (k : ∀ b w, b ≠ o → G b = some w → G' b = some w) : ∀ (n : Nat) (ds : List PyData) {vs : List V}, okA n ds = true → DpAll K G vs ds → DpAll K G' vs ds
  | _, [], _, _, .nil => .nil
  | n, d :: ds, _, h, .cons s a => by
    simp only [okA, Bool.and_eq_true] at h
    exact .cons (dp_off e k n d h.1 s) (dpa_off e k n ds h.2 a)
end
theorem joinL_nil : ∀ cs : List Nat, TL.joinL [] (cs.map fun c => [c]) = cs
  | [] => rfl
  | [c] => rfl
  | c :: d :: r => by
    show [c] ++ ([] ++ TL.joinL [] ((d :: r).map fun c => [c])) = _
    rw [joinL_nil (d :: r)]
    rfl
theorem join_signs (cs : List Nat) : Txt.join ("" : Str) (cs.map fun c => (⟨#[c]⟩ : Str)) = ⟨cs.toArray⟩ := by
  have h := SX.join_S [] (cs.map fun c => [c])
  rw [joinL_nil, List.map_map] at h
  have e : ("" : Str) = SX.S [] := by decide +kernel
  rw [e]
  exact h
theorem signs_len (cs : List Nat) : ((cs.map fun c => (⟨#[c]⟩ : Str)).map (·.length)).sum = cs.length := by
  induction cs with
  | nil => rfl
  | cons c cs ih => rw [List.map_cons, List.map_cons, List.sum_cons, ih, List.length_cons]; show 1 + _ = _; omega
theorem sign_len (c : Nat) : (⟨#[c]⟩ : Str).length = 1 := rfl
def chS : Str := " !\"#$ &'()*+,-./0123456789:;<=>?@ABCDEFGHIJKLMNOPQRSTUVWXYZ[\\]^_`abcdefghijklmnopqrstuvwxyz{|}~"
theorem ch_at : ∀ b : Nat, b < 95 → b ≠ 5 → chS.cps.toList[b]? = some (b + 32) := by decide +kernel
theorem ch_len : chS.length = 95 := by decide +kernel
def sp_chk (cM : Addr) : Sp := fun vs H Q E => ∃ (i : Int), vs = [.int i] ∧ (bitsOk i = true → Q (.int i) H) ∧ (bitsOk i = false → E (.ref cM) none H)
def sp_tx (K : PySem.W.Frag) (cT cM : Addr) : Sp := fun vs H Q E => ∃ (a : Addr) (bs : List Int) (i n : Nat), vs = [.ref a, .int (i : Int), .int (n : Int)] ∧ SqL K H a (bs.map V.int) ∧ Bytes bs ∧ i ≤ bs.length ∧ bs.length ≤ 90000 ∧ n ≤ 60000 ∧
  (∀ cs, txF n (bs.drop i) [] = .ok cs → ∀ p H', Same H H' → H' p = some (.tup [.str ⟨cs.toArray⟩, .int ((i + n : Nat) : Int)]) → Q (.ref p) H') ∧ (txF n (bs.drop i) [] = .trunc → ∀ H', Same H H' → E (.ref cT) none H') ∧ (txF n (bs.drop i) [] = .malf → ∀ H', Same H H' → E (.ref cM) none H')
/-- what a reading gives, from index i on -/
def Gives (K : PySem.W.Frag) (cT cM : Addr) (i : Nat) (r : TR) (H : Hp) (Q : VK) (E : XK) : Prop := match r with
  | .ok d k => ∀ p v H', Same H H' → H' p = some (.tup [v, .int ((i + k : Nat) : Int)]) → Dp K H' v d → Q (.ref p) H'
  | .trunc => ∀ H', Same H H' → E (.ref cT) none H'
  | .malf => ∀ H', Same H H' → E (.ref cM) none H'
def spTV (K : PySem.W.Frag) (cT cM : Addr) (m : Nat) : Sp := fun vs H Q E => ∃ (a : Addr) (bs : List Int) (i : Nat), vs = [.ref a, .int (i : Int), .int (20 - (m : Int))] ∧ m ≤ 20 ∧ SqL K H a (bs.map V.int) ∧ Bytes bs ∧ i ≤ bs.length ∧ bs.length ≤ 90000 ∧ Gives K cT cM i (tv m (bs.drop i)) H Q E
def spTM (K : PySem.W.Frag) (cT cM : Addr) (m : Nat) : Sp := fun vs H Q E => ∃ (a : Addr) (bs : List Int) (i n : Nat), vs = [.ref a, .int (i : Int), .int (n : Int), .int (20 - (m : Int))] ∧ m ≤ 20 ∧ SqL K H a (bs.map V.int) ∧ Bytes bs ∧ i ≤ bs.length ∧ bs.length ≤ 90000 ∧ n ≤ 60000 ∧ Gives K cT cM i (memF (tv m) n (bs.drop i) [] 0) H Q E
section
variable {P : Program} {w : World} {K : PySem.W.Frag} {mg : Str → Option Value} {base : Heap}
theorem ok__checked_integer (T : TX K mg) : FnOk P w K mg base (L2.CX P w) 1 T.a__checked_integer T.d__checked_integer ["number"] (sp_chk T.a_Malformed) := by
  refine T.F__checked_integer.okX sc__checked_integer (fun vs H Q E h => ?_) (fun cdv A outer s H vs Q E hr h => ?_)
  · obtain ⟨i, rfl, _⟩ := h
    rfl
  · obtain ⟨i, rfl, q1, q2⟩ := h
    refine ⟨_, (pss_cons (ps_if (pt_cmpR op_gt (pe_bits (pv 0)) (pe_glob (v := .int 3000) (by rfl) T.c_MOST_BITS ⟨_, rfl⟩) (nomark _)) (pss_one (ps_raise rfl (takes_of rfl rfl rfl rfl) (pmk_own PySem.F.excBase_ValueError T.x_Malformed T.g_Malformed T.k_Malformed (raises_own T.s_Malformed T.t_Malformed) rfl))) pss_nil)
      (pss_one (ps_ret (pv 0)))), ?_⟩
    refine ⟨_, rfl, i, rfl, _, _, rfl, rfl, _, rfl, ifd (fun hc => ?_) (fun hc => ?_)⟩
    · exact q2 (by unfold bitsOk; exact decide_eq_false (by omega))
    · exact ⟨_, rfl, q1 (by unfold bitsOk; exact decide_eq_true (by omega))⟩
theorem ok__take_text (T : TX K mg) : FnOk P w K mg base (L2.CX P w) 1 T.a__take_text T.d__take_text ["row", "index", "length"] (sp_tx K T.a_Truncated T.a_Malformed) := by
  refine T.F__take_text.okX sc__take_text (fun vs H Q E h => ?_) (fun cdv A outer s H vs Q E hr h => ?_)
  · obtain ⟨a, bs, i, n, rfl, _⟩ := h
    rfl
  · obtain ⟨a, bs, i, n, rfl, hS, hb, hi, hlen, hn, q, qT, qM⟩ := h
    refine ⟨_, (pss_cons (ps_set (i := 3) sc__take_text.nd rfl (Or.inl rfl) (pe_lst pa_nil))
      (pss_cons (ps_for (passes_of rfl) rfl (pi_range2 (by rfl) T.n_range (pa_cons (pv 1) (pa_cons (pe_op op_add (pv 1) (pv 2)) pa_nil))) (pg_name (i := 4) sc__take_text.nd rfl (Or.inl rfl))
        (pss_cons (ps_if (pt_cmpR op_ge (pv 4) (pe_callB call_len_seq (by rfl) T.n_len PySem.boot_len (pa_cons (pv 0) pa_nil)) (nomark _)) (pss_one (ps_raise rfl (takes_of rfl rfl rfl rfl) (pmk_own PySem.F.excBase_ValueError T.x_Truncated T.g_Truncated T.k_Truncated (raises_own T.s_Truncated T.t_Truncated) rfl))) pss_nil)
        (pss_cons (ps_set (i := 5) sc__take_text.nd rfl (Or.inl rfl) (pe_ix ix_list (pv 0) (pv 4) (fun _ _ => rfl)))
        (pss_cons (ps_if (PW.pt (pw_or (pt_cmpR op_ge (pv 5) (pe_callB call_len_str (by rfl) T.n_len PySem.boot_len (pa_cons (pe_glob (v := .str " !\"#$ &'()*+,-./0123456789:;<=>?@ABCDEFGHIJKLMNOPQRSTUVWXYZ[\\]^_`abcdefghijklmnopqrstuvwxyz{|}~") (by rfl) T.c_CHARACTERS ⟨_, rfl⟩) pa_nil)) (nomark _)) (pw_or1 (pt_cmpR op_eq (pv 5) (pe_glob (v := .int 5) (by rfl) T.c_PERCENT_BYTE ⟨_, rfl⟩) (nomark _))))) (pss_one (ps_raise rfl (takes_of rfl rfl rfl rfl) (pmk_own PySem.F.excBase_ValueError T.x_Malformed T.g_Malformed T.k_Malformed (raises_own T.s_Malformed T.t_Malformed) rfl))) pss_nil)
        (pss_one (ps_expr (pe_bm PySem.F.plainAttrs_list PySem.F.slot_list_append PySem.F.type_list_append mt_append (pv 3) (pa_cons (pe_ix ix_str (pe_glob (v := .str " !\"#$ &'()*+,-./0123456789:;<=>?@ABCDEFGHIJKLMNOPQRSTUVWXYZ[\\]^_`abcdefghijklmnopqrstuvwxyz{|}~") (by rfl) T.c_CHARACTERS ⟨_, rfl⟩) (pv 5) (fun _ _ => rfl)) pa_nil))))))))
      (pss_one (ps_ret (pe_tup (pa_cons (pe_join pe_str (pv 3)) (pa_cons (pe_op op_add (pv 1) (pv 2)) pa_nil))))))), ?_⟩
    have hml : (bs.map V.int).length = bs.length := List.length_map _
    refine ⟨Nat.zero_le _, fun o ho => ?_⟩
    refine ⟨_, rfl, _, rfl, _, rfl, _, _, rfl, rfl, _, _, rfl, ⟨by omega, by omega, by omega, by omega⟩, ?_⟩
    refine for_range (lo := (i : Int)) (n := _) (fun t σ G => ∃ (acc : List Nat) (x4 x5 : Option V), σ = [some (.ref a), some (.int (i : Int)), some (.int (n : Int)), some (.ref o), x4, x5] ∧ Same H G ∧ G o = some (.lst ((acc.map fun c => (⟨#[c]⟩ : Str)).map V.str)) ∧ acc.length = t ∧ txF n (bs.drop i) [] = txF (n - t) (bs.drop (i + t)) acc)
      ⟨[], none, none, rfl, same_upd ho, upd_same, rfl, rfl⟩ ?_ ?_
    · rintro t σ G ht ⟨acc, x4, x5, rfl, s1, e1, hl, htx⟩
      have ht' : t < n := by omega
      refine ⟨_, rfl, _, rfl, a, _, rfl, .inl (s1.seq hS), _, _, rfl, rfl, _, rfl, ifd (fun hc => ?_) (fun hc => ?_)⟩
      · rw [hml] at hc
        have h2 : bs.drop (i + t) = [] := List.drop_of_length_le (by omega)
        rw [h2, show n - t = (n - t - 1) + 1 by omega] at htx
        exact qT htx _ s1
      · rw [hml] at hc
        have hlt : i + t < bs.length := by omega
        have hg : bs[i + t]? = some bs[i + t] := List.getElem?_eq_getElem hlt
        have hbb := hb _ (List.getElem_mem hlt)
        have hdr : bs.drop (i + t) = bs[i + t] :: bs.drop (i + (t + 1)) := List.drop_eq_getElem_cons hlt
        have ga : atI (bs.map V.int) ((i : Int) + (t : Int)) = some (.int bs[i + t]) := by
          have := at_map (f := V.int) hg
          rwa [Int.natCast_add] at this
        rw [hdr, show n - t = (n - t - 1) + 1 by omega] at htx
        generalize bs[i + t] = b at hg hbb htx ga hdr
        refine ⟨_, rfl, _, rfl, a, _, _, .int b, rfl, rfl, s1.seq hS, ga, ?_⟩
        dsimp only [gName, tNext, tSeq, tIfS]
        refine or_use (x := decide (95 ≤ b)) (y := decide (b = 5)) (fun R r => ⟨_, rfl, _, rfl, (show chS.length ≤ sizeLine from by rw [ch_len]; exact sz (by decide)), _, _, rfl, rfl, _, rfl, ?_⟩) (fun R r => ⟨_, rfl, rfl, _, rfl, ?_⟩) ?_
        · have e : ((Str.length chS : Nat) : Int) = 95 := by rw [ch_len]; rfl
          show R (decide (((Str.length chS : Nat) : Int) ≤ b)) G
          rw [e]
          exact r
        · by_cases e : b = 5
          · rw [decide_eq_true e] at r
            rw [decide_eq_true (congrArg V.int e)]
            exact r
          · rw [decide_eq_false e] at r
            rw [decide_eq_false (fun z => e (V.int.inj z))]
            exact r
        have hst : txF ((n - t - 1) + 1) (b :: bs.drop (i + (t + 1))) acc = if 95 ≤ b ∨ b = 5 then .malf else txF (n - t - 1) (bs.drop (i + (t + 1))) (acc ++ [(b + 32).toNat]) := rfl
        rw [hst] at htx
        refine ifb2 (fun hx => ?_) (fun hx => ?_)
        · rw [Bool.or_eq_true, decide_eq_true_eq, decide_eq_true_eq] at hx
          rw [if_pos hx] at htx
          exact qM htx _ s1
        · rw [Bool.or_eq_false_iff, decide_eq_false_iff_not, decide_eq_false_iff_not] at hx
          rw [if_neg (by omega)] at htx
          obtain ⟨j, rfl⟩ := Int.eq_ofNat_of_zero_le hbb.1
          have hat := ch_at j (by omega) (by omega)
          refine ⟨_, rfl, .inl ⟨rfl, _, sql e1⟩, _, rfl, _, _, j + 32, rfl, rfl, (show chS.length ≤ sizeLine from by rw [ch_len]; exact sz (by decide)), atI_nat hat, o, _, _, rfl, rfl, e1, szl (by rw [List.length_map, List.length_map]; omega), ?_⟩
          refine ⟨acc ++ [j + 32], _, _, rfl, same_put s1 ho, ?_, by rw [List.length_append, hl]; rfl, ?_⟩
          · rw [upd_same, List.map_append, List.map_append]
            rfl
          · rw [htx, show ((j : Int) + 32).toNat = j + 32 by omega, show n - (t + 1) = n - t - 1 by omega]
    · rintro σ G ⟨acc, x4, x5, rfl, s1, e1, hl, htx⟩
      have hnn : ((i : Int) + (n : Int) - (i : Int)).toNat = n := by omega
      rw [hnn] at hl htx
      have hok : txF n (bs.drop i) [] = .ok acc := by rw [htx, Nat.sub_self]; rfl
      refine ⟨⟨_, rfl⟩, _, rfl, "", o, acc.map fun c => (⟨#[c]⟩ : Str), rfl, rfl, .inl (sql e1), ?_, ?_⟩
      · rw [signs_len, List.length_map]
        show acc.length + acc.length * 0 ≤ _
        omega
      · rw [join_signs]
        exact ⟨_, rfl, _, rfl, _, _, rfl, rfl, (by show 2 ≤ sizeLine; decide), fun p hp => q acc hok p _ (s1.trans (same_upd hp)) (by rw [upd_same]; rfl)⟩
end
theorem Gives.mono {K : PySem.W.Frag} {cT cM : Addr} {i : Nat} {r : TR} {H G : Hp} {Q : VK} {E : XK} (s : Same H G) (h : Gives K cT cM i r H Q E) : Gives K cT cM i r G Q E := by
  cases r with
  | ok d k => exact fun p v H' s2 e hd => h p v H' (s.trans s2) e hd
  | trunc => exact fun H' s2 => h H' (s.trans s2)
  | malf => exact fun H' s2 => h H' (s.trans s2)
theorem Gives.shift {K : PySem.W.Frag} {cT cM : Addr} {i j : Nat} {r : TR} {H : Hp} {Q : VK} {E : XK} (h : Gives K cT cM i (r.shift j) H Q E) : Gives K cT cM (i + j) r H Q E := by
  cases r with
  | ok d k => exact fun p v H' s2 e hd => h p v H' s2 (by rw [e, show i + j + k = i + (k + j) by omega]) hd
  | trunc => exact h
  | malf => exact h
section
variable {P : Program} {w : World} {K : PySem.W.Frag} {mg : Str → Option Value} {base : Heap}
theorem step_tm (T : TX K mg) (m : Nat) (ih__take_value : FnOk P w K mg base (L2.CX P w) (2 * m + 3) T.a__take_value T.d__take_value ["row", "index", "depth"] (spTV K T.a_Truncated T.a_Malformed m)) : FnOk P w K mg base (L2.CX P w) (2 * m + 4) T.a__take_members T.d__take_members ["row", "index", "length", "depth"] (spTM K T.a_Truncated T.a_Malformed m) := by
  refine T.F__take_members.okX sc__take_members (fun vs H Q E h => ?_) (fun cdv A outer s H vs Q E hr h => ?_)
  · obtain ⟨a, bs, i, n, rfl, _⟩ := h
    rfl
  · obtain ⟨a, bs, i, n, rfl, hm, hS, hb, hi, hlen, hn, q⟩ := h
    refine ⟨_, (pss_cons (ps_set (i := 4) sc__take_members.nd rfl (Or.inl rfl) (pe_lst pa_nil))
      (pss_cons (ps_for (passes_of rfl) rfl (pi_range1 (by rfl) T.n_range (pa_cons (pv 2) pa_nil)) (pg_name (i := 5) sc__take_members.nd rfl (Or.inl rfl))
        (pss_cons (ps_asg (pe_call ih__take_value (hr.mono (by omega)) (by rfl) T.g__take_value T.F__take_value.kp T.b__take_value .nil (passes_call (takes_of rfl rfl rfl rfl) (fun _ _ _ _ h => h)) (pa_cons (pv 0) (pa_cons (pv 1) (pa_cons (pv 3) pa_nil)))) (pg_tup (by rfl) (pgs_cons (pg_name (i := 6) sc__take_members.nd rfl (Or.inl rfl)) (pgs_cons (pg_name (i := 1) sc__take_members.nd rfl (Or.inl rfl)) pgs_nil))))
        (pss_one (ps_expr (pe_bm PySem.F.plainAttrs_list PySem.F.slot_list_append PySem.F.type_list_append mt_append (pv 4) (pa_cons (pv 6) pa_nil))))))
      (pss_one (ps_ret (pe_tup (pa_cons (pe_callTy call_tuple_of (by rfl) T.n_tuple (by decide +kernel) (pa_cons (pv 4) pa_nil)) (pa_cons (pv 1) pa_nil))))))), ?_⟩
    refine ⟨Nat.zero_le _, fun o ho => ?_⟩
    refine ⟨_, rfl, _, rfl, by omega, by omega, ?_⟩
    refine for_range (lo := 0) (n := _) (fun t σ G => ∃ (ds : List PyData) (xs : List V) (c : Nat) (x5 x6 : Option V), σ = [some (.ref a), some (.int ((i + c : Nat) : Int)), some (.int (n : Int)), some (.int (20 - (m : Int))), some (.ref o), x5, x6] ∧ Same H G ∧ G o = some (.lst xs) ∧ xs.length = t ∧ (∀ G', Same H G' → (∀ b w, b ≠ o → G b = some w → G' b = some w) → DpAll K G' xs ds) ∧ i + c ≤ bs.length ∧ memF (tv m) n (bs.drop i) [] 0 = memF (tv m) (n - t) (bs.drop (i + c)) ds c)
      ⟨[], [], 0, none, none, rfl, same_upd ho, upd_same, rfl, fun _ _ _ => .nil, hi, rfl⟩ ?_ ?_
    · rintro t σ G ht ⟨ds, xs, c, x5, x6, rfl, s1, e1, hl, hall, hic, hmem⟩
      have ht' : t < n := by omega
      rw [show n - t = (n - t - 1) + 1 by omega] at hmem
      have hst : memF (tv m) ((n - t - 1) + 1) (bs.drop (i + c)) ds c = match tv m (bs.drop (i + c)) with
        | .ok d k => memF (tv m) (n - t - 1) ((bs.drop (i + c)).drop k) (ds ++ [d]) (c + k)
        | .trunc => .trunc
        | .malf => .malf := rfl
      rw [hst] at hmem
      refine ⟨_, rfl, _, rfl, _, rfl, a, bs, i + c, rfl, hm, s1.seq hS, hb, hic, hlen, ?_⟩
      cases e : tv m (bs.drop (i + c)) with
      | trunc =>
        rw [e] at hmem
        rw [hmem] at q
        exact fun H' s2 => q H' (s1.trans s2)
      | malf =>
        rw [e] at hmem
        rw [hmem] at q
        exact fun H' s2 => q H' (s1.trans s2)
      | ok d k =>
        rw [e] at hmem
        have hk := tv_len m _ d k e
        rw [List.length_drop] at hk
        intro p v G2 s2 ep hd
        have e2 := s2 _ _ e1
        refine ⟨p, _, rfl, sqt ep, rfl, ?_⟩
        refine ⟨v, _, rfl, _, _, rfl, rfl, ?_⟩
        refine ⟨_, rfl, .inl ⟨rfl, _, sql e2⟩, _, rfl, o, _, _, rfl, rfl, e2, szl (by omega), ?_⟩
        refine ⟨ds ++ [d], xs ++ [v], c + k, some (.int (0 + (t : Int))), some v, by rw [← Nat.add_assoc]; rfl, same_put (s1.trans s2) ho, upd_same, by rw [List.length_append, hl]; rfl, fun G' sG off => ?_, by omega, ?_⟩
        · have hoff : ∀ b w, b ≠ o → G2 b = some w → G' b = some w := fun b w nb h => off b w nb (by rw [upd_ne nb]; exact h)
          refine dpa_app (hall G' sG fun b w nb h => hoff b w nb (s2 _ _ h)) (.cons ?_ .nil)
          exact dp_off e2 hoff m d (tv_ok m _ d k (bytes_drop _ hb) e) hd
        · rw [hmem]
          dsimp only
          rw [List.drop_drop, show n - (t + 1) = n - t - 1 by omega, Nat.add_assoc]
    · rintro σ G ⟨ds, xs, c, x5, x6, rfl, s1, e1, hl, hall, hic, hmem⟩
      rw [Int.toNat_natCast, Nat.sub_self] at hmem
      have hok : memF (tv m) n (bs.drop i) [] 0 = .ok (.tuple ds) c := by rw [hmem]; rfl
      rw [hok] at q
      refine ⟨_, rfl, o, _, rfl, .inl ⟨sql e1, fun p1 hp1 => ?_⟩⟩
      have s2 := same_upd (o := .tup xs) hp1
      refine ⟨_, rfl, (by show 2 ≤ sizeLine; decide), fun p hp => ?_⟩
      have s3 := s2.trans (same_upd (o := .tup [.ref p1, .int ((i + c : Nat) : Int)]) hp)
      refine q p (.ref p1) _ (s1.trans s3) upd_same (.tup (sqt ?_) (hall _ (s1.trans s3) fun b w _ h => s3 _ _ h))
      rw [upd_ne (fun z => by rw [z, upd_same] at hp; cases hp), upd_same]
theorem step_tv (T : TX K mg) (m : Nat) (spm : Sp) (ih__take_members : FnOk P w K mg base (L2.CX P w) (2 * m + 2) T.a__take_members T.d__take_members ["row", "index", "length", "depth"] spm) (hs : ∀ j, m = j + 1 → spm = spTM K T.a_Truncated T.a_Malformed j) : FnOk P w K mg base (L2.CX P w) (2 * m + 3) T.a__take_value T.d__take_value ["row", "index", "depth"] (spTV K T.a_Truncated T.a_Malformed m) := by
  refine T.F__take_value.okX sc__take_value (fun vs H Q E h => ?_) (fun cdv A outer s H vs Q E hr h => ?_)
  · obtain ⟨a, bs, i, rfl, _⟩ := h
    rfl
  · obtain ⟨a, bs, i, rfl, hm, hS, hb, hi, hlen, q⟩ := h
    refine ⟨_, (pss_cons (ps_if (pt_cmpR op_ge (pv 1) (pe_callB call_len_seq (by rfl) T.n_len PySem.boot_len (pa_cons (pv 0) pa_nil)) (nomark _)) (pss_one (ps_raise rfl (takes_of rfl rfl rfl rfl) (pmk_own PySem.F.excBase_ValueError T.x_Truncated T.g_Truncated T.k_Truncated (raises_own T.s_Truncated T.t_Truncated) rfl))) pss_nil)
      (pss_cons (ps_set (i := 3) sc__take_value.nd rfl (Or.inl rfl) (pe_ix ix_list (pv 0) (pv 1) (fun _ _ => rfl)))
      (pss_cons (ps_if (pt_cmpR op_gt (pv 3) (pe_glob (v := .int 6) (by rfl) T.c_TUPLE_TAG ⟨_, rfl⟩) (nomark _)) (pss_one (ps_raise rfl (takes_of rfl rfl rfl rfl) (pmk_own PySem.F.excBase_ValueError T.x_Malformed T.g_Malformed T.k_Malformed (raises_own T.s_Malformed T.t_Malformed) rfl))) pss_nil)
      (pss_cons (ps_if (pt_cmpR op_le (pv 3) (pe_glob (v := .int 2) (by rfl) T.c_TRUE_TAG ⟨_, rfl⟩) (nomark _)) (pss_one (ps_ret (pe_tup (pa_cons (pe_ix ix_tup (pe_glob (v := .ref T.ca_CONSTANTS) (by rfl) T.c_CONSTANTS rfl) (pv 3) (fun _ _ => rfl)) (pa_cons (pe_op op_add (pv 1) pe_int) pa_nil))))) pss_nil)
      (pss_cons (ps_if (PW.pt (pw_and (pt_cmpR op_eq (pv 3) (pe_glob (v := .int 6) (by rfl) T.c_TUPLE_TAG ⟨_, rfl⟩) (nomark _)) (pw_and1 (pt_cmpR op_eq (pv 2) (pe_glob (v := .int 20) (by rfl) T.c_MOST_DEPTH ⟨_, rfl⟩) (nomark _))))) (pss_one (ps_raise rfl (takes_of rfl rfl rfl rfl) (pmk_own PySem.F.excBase_ValueError T.x_Malformed T.g_Malformed T.k_Malformed (raises_own T.s_Malformed T.t_Malformed) rfl))) pss_nil)
      (pss_cons (ps_asg (pe_call (ok_take_number T) (hr.mono (by omega)) (by rfl) T.g_take_number T.F_take_number.kp T.b_take_number .nil (passes_call (takes_of rfl rfl rfl rfl) (fun _ _ _ _ h => h)) (pa_cons (pv 0) (pa_cons (pe_op op_add (pv 1) pe_int) pa_nil))) (pg_tup (by rfl) (pgs_cons (pg_name (i := 4) sc__take_value.nd rfl (Or.inl rfl)) (pgs_cons (pg_name (i := 5) sc__take_value.nd rfl (Or.inl rfl)) pgs_nil))))
      (pss_cons (ps_if (pt_cmpR op_eq (pv 3) (pe_glob (v := .int 3) (by rfl) T.c_NATURAL_TAG ⟨_, rfl⟩) (nomark _)) (pss_one (ps_ret (pe_tup (pa_cons (pe_call (ok__checked_integer T) (hr.mono (by omega)) (by rfl) T.g__checked_integer T.F__checked_integer.kp T.b__checked_integer .nil (passes_call (takes_of rfl rfl rfl rfl) (fun _ _ _ _ h => h)) (pa_cons (pv 4) pa_nil)) (pa_cons (pv 5) pa_nil))))) pss_nil)
      (pss_cons (ps_if (pt_cmpR op_eq (pv 3) (pe_glob (v := .int 4) (by rfl) T.c_NEGATIVE_TAG ⟨_, rfl⟩) (nomark _)) (pss_one (ps_ret (pe_tup (pa_cons (pe_call (ok__checked_integer T) (hr.mono (by omega)) (by rfl) T.g__checked_integer T.F__checked_integer.kp T.b__checked_integer .nil (passes_call (takes_of rfl rfl rfl rfl) (fun _ _ _ _ h => h)) (pa_cons (pe_op op_sub (pe_un un_neg pe_int) (pv 4)) pa_nil)) (pa_cons (pv 5) pa_nil))))) pss_nil)
      (pss_cons (ps_if (pt_cmpR op_gt (pv 4) (pe_glob (v := .int 60000) (by rfl) T.c_MOST_LENGTH ⟨_, rfl⟩) (nomark _)) (pss_one (ps_raise rfl (takes_of rfl rfl rfl rfl) (pmk_own PySem.F.excBase_ValueError T.x_Malformed T.g_Malformed T.k_Malformed (raises_own T.s_Malformed T.t_Malformed) rfl))) pss_nil)
      (pss_cons (ps_if (pt_cmpR op_eq (pv 3) (pe_glob (v := .int 5) (by rfl) T.c_TEXT_TAG ⟨_, rfl⟩) (nomark _)) (pss_one (ps_ret (pe_call (ok__take_text T) (hr.mono (by omega)) (by rfl) T.g__take_text T.F__take_text.kp T.b__take_text .nil (passes_call (takes_of rfl rfl rfl rfl) (fun _ _ _ _ h => h)) (pa_cons (pv 0) (pa_cons (pv 5) (pa_cons (pv 4) pa_nil)))))) pss_nil)
      (pss_one (ps_ret (pe_call ih__take_members (hr.mono (by omega)) (by rfl) T.g__take_members T.F__take_members.kp T.b__take_members .nil (passes_call (takes_of rfl rfl rfl rfl) (fun _ _ _ _ h => h)) (pa_cons (pv 0) (pa_cons (pv 5) (pa_cons (pv 4) (pa_cons (pe_op op_add (pv 2) pe_int) pa_nil))))))))))))))))), ?_⟩
    have hml : (bs.map V.int).length = bs.length := List.length_map _
    obtain ⟨mm, hmm⟩ : ∃ mm, mm = (match m with | 0 => none | j + 1 => some (tv j)) := ⟨_, rfl⟩
    have htv : ∀ l, tv m l = tvB mm l := fun l => by
      cases m with
      | zero => rw [hmm]; rfl
      | succ j => rw [hmm]; rfl
    rw [htv] at q
    refine ⟨_, rfl, _, rfl, a, _, rfl, .inl hS, _, _, rfl, rfl, _, rfl, ifd (fun hc => ?_) (fun hc => ?_)⟩
    · rw [hml] at hc
      rw [List.drop_of_length_le (by omega)] at q
      exact q _ (Same.refl _)
    rw [hml] at hc
    have hlt : i < bs.length := by omega
    have hg : bs[i]? = some bs[i] := List.getElem?_eq_getElem hlt
    have hbb := hb _ (List.getElem_mem hlt)
    have hdr : bs.drop i = bs[i] :: bs.drop (i + 1) := List.drop_eq_getElem_cons hlt
    have ga : atI (bs.map V.int) (i : Int) = some (.int bs[i]) := at_map (f := V.int) hg
    rw [hdr] at q
    generalize bs[i] = t at hg hbb q ga hdr
    have q : Gives K T.a_Truncated T.a_Malformed i (tvC mm t (bs.drop (i + 1))) H Q E := q
    unfold tvC at q
    refine ⟨_, rfl, _, rfl, a, _, _, .int t, rfl, rfl, hS, ga, ?_⟩
    refine ⟨_, rfl, _, _, rfl, rfl, _, rfl, ifd (fun h6 => ?_) (fun h6 => ?_)⟩
    · rw [if_pos h6] at q
      exact q _ (Same.refl _)
    rw [if_neg h6] at q
    refine ⟨_, rfl, _, _, rfl, rfl, _, rfl, ifd (fun h2 => ?_) (fun h2 => ?_)⟩
    · rw [if_pos h2] at q
      obtain ⟨x, hx, hxd⟩ : ∃ x, atI [V.non, V.bl false, V.bl true] t = some x ∧ ∀ G, Dp K G x (constD t) := by
        have h3 : t = 0 ∨ t = 1 ∨ t = 2 := by omega
        rcases h3 with rfl | rfl | rfl
        · exact ⟨.non, rfl, fun _ => .non⟩
        · exact ⟨.bl false, rfl, fun _ => .bl false⟩
        · exact ⟨.bl true, rfl, fun _ => .bl true⟩
      refine ⟨_, rfl, T.ca_CONSTANTS, _, t, x, rfl, rfl, T.q_CONSTANTS _, hx, _, rfl, _, _, rfl, rfl, (by show 2 ≤ sizeLine; decide), fun p hp => q p x _ (same_upd hp) ?_ (hxd _)⟩
      rw [upd_same]; rfl
    rw [if_neg h2] at q
    dsimp only [gName, tNext, tSeq, tIfS]
    refine and_use (x := decide (t = 6)) (y := decide (m = 0)) (fun R r => ⟨_, rfl, rfl, _, rfl, ?_⟩) (fun R r => ⟨_, rfl, rfl, _, rfl, ?_⟩) ?_
    · by_cases e : t = 6
      · rw [decide_eq_true e] at r
        rw [decide_eq_true (congrArg V.int e)]
        exact r
      · rw [decide_eq_false e] at r
        rw [decide_eq_false (fun z => e (V.int.inj z))]
        exact r
    · by_cases e : m = 0
      · rw [decide_eq_true e] at r
        rw [decide_eq_true (by rw [e]; rfl)]
        exact r
      · rw [decide_eq_false e] at r
        rw [decide_eq_false (fun z => e (by have := V.int.inj z; omega))]
        exact r
    have hmn : mm.isNone = decide (m = 0) := by
      cases m with
      | zero => rw [hmm]; rfl
      | succ j => rw [hmm]; simp
    refine ifb2 (fun hx => ?_) (fun hx => ?_)
    · rw [Bool.and_eq_true, decide_eq_true_eq] at hx
      rw [if_pos ⟨hx.1, by rw [hmn]; exact hx.2⟩] at q
      exact q _ (Same.refl _)
    have hno : ¬ (t = 6 ∧ mm.isNone = true) := fun z => by
      rw [hmn] at z
      rw [Bool.and_eq_false_iff, decide_eq_false_iff_not] at hx
      rcases hx with y | y
      · exact y z.1
      · rw [y] at z; cases z.2
    rw [if_neg hno] at q
    have hbr := bytes_drop (i + 1) hb
    refine ⟨_, rfl, _, rfl, _, _, rfl, rfl, a, bs, i + 1, rfl, hS, hb, hlt, hlen, fun n c e p G hp s1 ep => ?_, fun e => ?_, fun e => ?_⟩
    · rw [e] at q
      have hn := rdGo_nn 500 0 0 _ n c hbr (by decide) e
      have hc2 := (rdGo_len 500 0 0 _ n c e).1
      rw [List.length_drop] at hc2
      obtain ⟨n, rfl⟩ := Int.eq_ofNat_of_zero_le hn
      dsimp only at q
      rw [Int.toNat_natCast] at q
      have hS1 := s1.seq hS
      refine ⟨p, _, rfl, sqt ep, rfl, _, _, rfl, _, _, rfl, rfl, ?_⟩
      have hix : ∀ j : Nat, ((i + 1 + c + j : Nat) : Int) = ((i + (1 + c + j) : Nat) : Int) := fun j => by omega
      refine ⟨_, rfl, rfl, _, rfl, ifd (fun h3 => ?_) (fun h3 => ?_)⟩
      · rw [if_pos (V.int.inj h3)] at q
        unfold chkI at q
        refine ⟨_, rfl, (n : Int), rfl, fun hbo => ?_, fun hbo => ?_⟩
        · rw [if_pos hbo] at q
          refine ⟨_, rfl, (by show 2 ≤ sizeLine; decide), fun p hp => q p (.int n) _ (s1.trans (same_upd hp)) ?_ (.int n)⟩
          rw [upd_same, show i + 1 + c = i + (1 + c) by omega]
        · rw [if_neg (by rw [hbo]; decide)] at q
          exact q _ s1
      rw [if_neg (fun z => h3 (congrArg V.int z))] at q
      refine ⟨_, rfl, rfl, _, rfl, ifd (fun h4 => ?_) (fun h4 => ?_)⟩
      · rw [if_pos (V.int.inj h4)] at q
        unfold chkI at q
        refine ⟨_, rfl, _, rfl, _, _, rfl, rfl, -1 - (n : Int), rfl, fun hbo => ?_, fun hbo => ?_⟩
        · rw [if_pos hbo] at q
          refine ⟨_, rfl, (by show 2 ≤ sizeLine; decide), fun p hp => q p (.int (-1 - (n : Int))) _ (s1.trans (same_upd hp)) ?_ (.int _)⟩
          rw [upd_same, show i + 1 + c = i + (1 + c) by omega]
        · rw [if_neg (by rw [hbo]; decide)] at q
          exact q _ s1
      rw [if_neg (fun z => h4 (congrArg V.int z))] at q
      refine ⟨_, rfl, _, _, rfl, rfl, _, rfl, ifd (fun h60 => ?_) (fun h60 => ?_)⟩
      · rw [if_pos h60] at q
        exact q _ s1
      rw [if_neg h60] at q
      refine ⟨_, rfl, rfl, _, rfl, ifd (fun h5 => ?_) (fun h5 => ?_)⟩
      · rw [if_pos (V.int.inj h5)] at q
        refine ⟨_, rfl, _, rfl, _, rfl, a, bs, i + 1 + c, n, rfl, hS1, hb, by omega, hlen, by omega, fun cs e2 p2 G2 s2 ep2 => ?_, fun e2 G2 s2 => ?_, fun e2 G2 s2 => ?_⟩
        · rw [List.drop_drop, e2] at q
          exact q p2 _ G2 (s1.trans s2) (by rw [ep2, hix]) (.str _)
        · rw [List.drop_drop, e2] at q
          exact q G2 (s1.trans s2)
        · rw [List.drop_drop, e2] at q
          exact q G2 (s1.trans s2)
      rw [if_neg (fun z => h5 (congrArg V.int z))] at q
      have ht6 : t = 6 := by
        have h7 : ¬ V.int t = V.int 3 := h3
        have h8 : t ≠ 3 := fun z => h3 (congrArg V.int z)
        have h9 : t ≠ 4 := fun z => h4 (congrArg V.int z)
        have h10 : t ≠ 5 := fun z => h5 (congrArg V.int z)
        omega
      cases m with
      | zero => exact absurd ⟨ht6, by rw [hmm]; rfl⟩ hno
      | succ j =>
        have hsp := hs j rfl
        subst hsp
        rw [hmm] at q
        unfold tvM at q
        dsimp only at q
        refine ⟨_, rfl, _, rfl, _, rfl, _, rfl, _, _, rfl, rfl, a, bs, i + 1 + c, n, ?_, by omega, hS1, hb, by omega, hlen, by omega, ?_⟩
        · have : (20 : Int) - ((j + 1 : Nat) : Int) + 1 = 20 - (j : Int) := by omega
          exact congrArg (fun z => [V.ref a, V.int ((i + 1 + c : Nat) : Int), V.int (n : Int), V.int z]) this
        · rw [show (1 + c : Nat) = 0 + (1 + c) by omega, memF_shift, List.drop_drop] at q
          rw [show i + 1 + c = i + (1 + c) by omega] at q ⊢
          exact (Gives.shift q).mono s1
    · rw [e] at q
      exact q _ (Same.refl _)
    · rw [e] at q
      exact q _ (Same.refl _)
/-- nothing is asked: any def keeps that -/
theorem tvn (T : TX K mg) : ∀ m : Nat, FnOk P w K mg base (L2.CX P w) (2 * m + 3) T.a__take_value T.d__take_value ["row", "index", "depth"] (spTV K T.a_Truncated T.a_Malformed m)
  | 0 => step_tv T 0 (fun _ _ _ _ => False) (T.F__take_members.okX sc__take_members (fun vs H Q E h => h.elim) (fun cdv A outer s H vs Q E hr h => h.elim)) (fun j h => by cases h)
  | m + 1 => step_tv T (m + 1) (spTM K T.a_Truncated T.a_Malformed m) (step_tm T m (tvn T m)) (fun j h => by injection h with h; rw [h])
theorem ok__take_value (T : TX K mg) : FnOk P w K mg base (L2.CX P w) (43) T.a__take_value T.d__take_value ["row", "index", "depth"] (spTV K T.a_Truncated T.a_Malformed 20) := tvn T 20
def sp_unpack (K : PySem.W.Frag) (cT cM : Addr) : Sp := fun vs H Q E => ∃ (a : Addr) (bs : List Int), vs = [.ref a] ∧ SqL K H a (bs.map V.int) ∧ Bytes bs ∧ bs.length ≤ 90000 ∧
  (match tv 20 bs with
    | .ok d k => if k < bs.length then ∀ H', Same H H' → E (.ref cM) none H' else ∀ v H', Same H H' → Dp K H' v d → Q v H'
    | .trunc => ∀ H', Same H H' → E (.ref cT) none H'
    | .malf => ∀ H', Same H H' → E (.ref cM) none H')
theorem ok_unpack (T : TX K mg) : FnOk P w K mg base (L2.CX P w) 44 T.a_unpack T.d_unpack ["row"] (sp_unpack K T.a_Truncated T.a_Malformed) := by
  refine T.F_unpack.okX sc_unpack (fun vs H Q E h => ?_) (fun cdv A outer s H vs Q E hr h => ?_)
  · obtain ⟨a, bs, rfl, _⟩ := h
    rfl
  · obtain ⟨a, bs, rfl, hS, hb, hlen, q⟩ := h
    refine ⟨_, (pss_cons (ps_asg (pe_call (ok__take_value T) (hr.mono (by decide)) (by rfl) T.g__take_value T.F__take_value.kp T.b__take_value .nil (passes_call (takes_of rfl rfl rfl rfl) (fun _ _ _ _ h => h)) (pa_cons (pv 0) (pa_cons pe_int (pa_cons pe_int pa_nil)))) (pg_tup (by rfl) (pgs_cons (pg_name (i := 1) sc_unpack.nd rfl (Or.inl rfl)) (pgs_cons (pg_name (i := 2) sc_unpack.nd rfl (Or.inl rfl)) pgs_nil))))
      (pss_cons (ps_if (pt_cmpR op_lt (pv 2) (pe_callB call_len_seq (by rfl) T.n_len PySem.boot_len (pa_cons (pv 0) pa_nil)) (nomark _)) (pss_one (ps_raise rfl (takes_of rfl rfl rfl rfl) (pmk_own PySem.F.excBase_ValueError T.x_Malformed T.g_Malformed T.k_Malformed (raises_own T.s_Malformed T.t_Malformed) rfl))) pss_nil)
      (pss_one (ps_ret (pv 1))))), ?_⟩
    refine ⟨_, rfl, a, bs, 0, rfl, by decide, hS, hb, Nat.zero_le _, hlen, ?_⟩
    rw [List.drop_zero]
    cases e : tv 20 bs with
    | trunc =>
      rw [e] at q
      exact q
    | malf =>
      rw [e] at q
      exact q
    | ok d k =>
      rw [e] at q
      dsimp only at q
      intro p v G s1 ep hd
      rw [Nat.zero_add] at ep
      have hml : (bs.map V.int).length = bs.length := List.length_map _
      refine ⟨p, _, rfl, sqt ep, rfl, v, _, rfl, _, _, rfl, rfl, ?_⟩
      refine ⟨_, rfl, _, rfl, a, _, rfl, .inl (s1.seq hS), _, _, rfl, rfl, _, rfl, ifd (fun hc => ?_) (fun hc => ?_)⟩
      · rw [hml] at hc
        rw [if_pos (by omega)] at q
        exact q _ s1
      · rw [hml] at hc
        rw [if_neg (by omega)] at q
        exact ⟨_, rfl, q v G s1 hd⟩
def sp_pack (K : PySem.W.Frag) (cN : Addr) : Sp := fun vs H Q E => ∃ (v : V) (d : PyData), vs = [v] ∧ Dp K H v d ∧ fits d = true ∧
  (okV 20 d = true → (pkL d).length ≤ 90000 ∧ ∀ p H', H p = none → Same H H' → H' p = some (.lst ((pkL d).map V.int)) → Q (.ref p) H') ∧ (okV 20 d = false → E (.ref cN) none H)
theorem ok_pack (T : TX K mg) : FnOk P w K mg base (L2.CX P w) 24 T.a_pack T.d_pack ["value"] (sp_pack K T.a_NotAValue) := by
  refine T.F_pack.okX sc_pack (fun vs H Q E h => ?_) (fun cdv A outer s H vs Q E hr h => ?_)
  · obtain ⟨v, d, rfl, _⟩ := h
    rfl
  · obtain ⟨v, d, rfl, hd, hf, q1, q2⟩ := h
    refine ⟨_, (pss_cons (ps_if (pt_not (pt_val (pe_call (ok_is_value T) (hr.mono (by decide)) (by rfl) T.g_is_value T.F_is_value.kp T.b_is_value .nil pass0 (pa_cons (pv 0) pa_nil)))) (pss_one (ps_raise rfl (takes_of rfl rfl rfl rfl) (pmk_own PySem.F.excBase_ValueError T.x_NotAValue T.g_NotAValue T.k_NotAValue (raises_own T.s_NotAValue T.t_NotAValue) rfl))) pss_nil)
      (pss_one (ps_ret (pe_call (ok__packed T) (hr.mono (by decide)) (by rfl) T.g__packed T.F__packed.kp T.b__packed .nil pass0 (pa_cons (pv 0) pa_nil))))), ?_⟩
    refine ⟨_, rfl, v, d, rfl, hd, hf, _, rfl, ?_⟩
    cases e : okV 20 d with
    | true =>
      obtain ⟨hl, q⟩ := q1 e
      exact ifbf rfl ⟨_, rfl, v, d, rfl, hd, e, hl, q⟩
    | false => exact ifbt rfl (q2 e)
end
theorem rd_put {n : Nat} (h : n < Lim) (rest : List Int) : rd (enc n ++ rest) = .num n (enc n).length := by
  have := rd_enc n 500 0 0 rest (enc_lim h) (.inl rfl)
  unfold rd
  rw [this, Nat.zero_add]
  congr 1
  rw [Int.pow_zero]
  omega
theorem tx_put : ∀ (cs acc : List Nat) (rest : List Int), (∀ c ∈ cs, plainC c = true) → txF cs.length ((cs.map fun (c : Nat) => (c : Int) - 32) ++ rest) acc = .ok (acc ++ cs)
  | [], acc, _, _ => by rw [List.append_nil]; rfl
  | c :: cs, acc, rest, h => by
    have hc := h c List.mem_cons_self
    unfold plainC at hc
    simp only [Bool.not_eq_true', Bool.or_eq_false_iff, decide_eq_false_iff_not] at hc
    show (if 95 ≤ (c : Int) - 32 ∨ (c : Int) - 32 = 5 then .malf else txF cs.length ((cs.map fun (c : Nat) => (c : Int) - 32) ++ rest) (acc ++ [((c : Int) - 32 + 32).toNat])) = T3.ok (acc ++ (c :: cs))
    rw [if_neg (by omega), show ((c : Int) - 32 + 32).toNat = c by omega, tx_put cs _ rest fun x hx => h x (List.mem_cons_of_mem _ hx), List.append_assoc]
    rfl
theorem intBits_int {i : Int} : bitsOk i = true → i.natAbs < Lim := fun h => bits_lt (by unfold bitsOk at h; have := of_decide_eq_true h; omega)
theorem tvB_tag {mm : Option (List Int → TR)} {t : Int} {n : Nat} {rest : List Int} (h : 2 < t) (h6 : t ≤ 6) (hn : n < Lim) (hm : t = 6 → mm.isNone = false) : tvC mm t (enc n ++ rest) = if t = 3 then chkI n (1 + (enc n).length) else if t = 4 then chkI (-1 - (n : Int)) (1 + (enc n).length) else if 60000 < (n : Int) then .malf
      else if t = 5 then tvT (txF n rest []) (1 + (enc n).length + n)
      else tvM mm n rest (1 + (enc n).length) := by
  unfold tvC
  rw [if_neg (by omega), if_neg (by omega), if_neg (fun z => by rw [hm z.1] at z; cases z.2), rd_put hn]
  dsimp only
  rw [Int.toNat_natCast, List.drop_left]
mutual
theorem tv_pk : ∀ (m : Nat) (d : PyData) (rest : List Int), okV m d = true → tv m (pkL d ++ rest) = .ok d (pkL d).length
  | m, .none, rest, _ => by cases m <;> (simp only [pkL]; rfl)
  | m, .bool b, rest, _ => by cases m <;> cases b <;> (simp only [pkL]; rfl)
  | m, .int i, rest, h => by
    have hb : bitsOk i = true := by cases m <;> simpa [okV] using h
    have hl := intBits_int hb
    have htv : ∀ l, tv m l = tvB (match m with | 0 => none | j + 1 => some (tv j)) l := fun l => by cases m <;> rfl
    rw [htv]
    by_cases hn : i < 0
    · have e : pkL (.int i) = 4 :: enc (-1 - i).toNat := by simp [pkL, hn]
      rw [e]
      show tvC _ 4 (enc (-1 - i).toNat ++ rest) = _
      rw [tvB_tag (by decide) (by decide) (by omega) (fun z => by cases z), if_neg (by decide), if_pos rfl]
      unfold chkI
      rw [show (-1 - ((-1 - i).toNat : Int)) = i by omega, if_pos hb, List.length_cons, Nat.add_comm]
    · have e : pkL (.int i) = 3 :: enc i.toNat := by simp [pkL, hn]
      rw [e]
      show tvC _ 3 (enc i.toNat ++ rest) = _
      rw [tvB_tag (by decide) (by decide) (by omega) (fun z => by cases z), if_pos rfl]
      unfold chkI
      rw [show ((i.toNat : Nat) : Int) = i by omega, if_pos hb, List.length_cons, Nat.add_comm]
  | m, .str x, rest, h => by
    rw [okV_str, Bool.and_eq_true, decide_eq_true_eq] at h
    have htv : ∀ l, tv m l = tvB (match m with | 0 => none | j + 1 => some (tv j)) l := fun l => by cases m <;> rfl
    rw [htv]
    have e : pkL (.str x) = 5 :: (enc x.length ++ x.cps.toList.map fun (c : Nat) => (c : Int) - 32) := by simp [pkL]
    rw [e]
    show tvC _ 5 ((enc x.length ++ x.cps.toList.map fun (c : Nat) => (c : Int) - 32) ++ rest) = _
    rw [List.append_assoc, tvB_tag (by decide) (by decide) (enc_small_lim (by omega)) (fun z => by cases z), if_neg (by decide), if_neg (by decide), if_neg (by omega), if_pos rfl]
    have ht := tx_put x.cps.toList [] rest (List.all_eq_true.mp h.2)
    rw [← zlen] at ht
    rw [ht]
    unfold tvT
    dsimp only
    rw [List.nil_append]
    congr 1
    simp only [List.length_cons, List.length_append, List.length_map, ← zlen]
    omega
  | 0, .tuple ds, rest, h => by rw [okV_tup0] at h; cases h
  | m + 1, .tuple ds, rest, h => by
    rw [okV_tup, Bool.and_eq_true, decide_eq_true_eq] at h
    have e : pkL (.tuple ds) = 6 :: (enc ds.length ++ pkA ds) := by simp [pkL]
    rw [e]
    show tvC (some (tv m)) 6 ((enc ds.length ++ pkA ds) ++ rest) = _
    rw [List.append_assoc, tvB_tag (by decide) (by decide) (enc_small_lim (by omega)) (fun z => rfl), if_neg (by decide), if_neg (by decide), if_neg (by omega), if_neg (by decide)]
    unfold tvM
    dsimp only
    rw [mem_pk m ds [] rest _ h.2]
    simp only [List.length_cons, List.length_append, List.nil_append]
    congr 1
    omega
  | _, .list ds, _, h => by rw [okV_lst] at h; cases h
  | m, .dict ds, _, h => by cases m <;> simp [okV] at h
theorem mem_pk : ∀ (m : Nat) (ds acc : List PyData) (rest : List Int) (c : Nat), okA m ds = true → memF (tv m) ds.length (pkA ds ++ rest) acc c = .ok (.tuple (acc ++ ds)) (c + (pkA ds).length)
  | m, [], acc, rest, c, _ => by rw [List.append_nil]; rfl
  | m, d :: ds, acc, rest, c, h => by
    simp only [okA, Bool.and_eq_true] at h
    have e : pkA (d :: ds) = pkL d ++ pkA ds := by simp [pkA]
    rw [e, List.append_assoc]
    show (match tv m (pkL d ++ (pkA ds ++ rest)) with
      | .ok d2 k => memF (tv m) ds.length ((pkL d ++ (pkA ds ++ rest)).drop k) (acc ++ [d2]) (c + k)
      | .trunc => .trunc
      | .malf => .malf) = _
    rw [tv_pk m d _ h.1]
    dsimp only
    rw [List.drop_left, mem_pk m ds _ rest _ h.2, List.append_assoc, List.length_append, Nat.add_assoc]
    rfl
end
theorem bits_mono (x : Str) (h : plainS x = true) : ∀ b ∈ (x.cps.toList.map fun (c : Nat) => (c : Int) - 32), 0 ≤ b ∧ b < 256 := fun b hb => by
  obtain ⟨c, hc, rfl⟩ := List.mem_map.mp hb
  have := List.all_eq_true.mp h c hc
  unfold plainC at this
  simp only [Bool.not_eq_true', Bool.or_eq_false_iff, decide_eq_false_iff_not] at this
  omega
theorem bytes_app {a b : List Int} (h : Bytes a) (g : Bytes b) : Bytes (a ++ b) := fun x hx => (List.mem_append.mp hx).elim (h x) (g x)
theorem bytes_cons {x : Int} {a : List Int} (h : 0 ≤ x ∧ x < 256) (g : Bytes a) : Bytes (x :: a) := fun y hy => (List.mem_cons.mp hy).elim (fun z => by rw [z]; exact h) (g y)
mutual
theorem pk_bytes : ∀ (m : Nat) (d : PyData), okV m d = true → Bytes (pkL d)
  | _, .none, _ => by simp only [pkL]; exact bytes_cons (by decide) (fun _ z => by cases z)
  | _, .bool b, _ => by cases b <;> (simp only [pkL]; exact bytes_cons (by decide) (fun _ z => by cases z))
  | _, .int i, _ => by
    by_cases hn : i < 0
    · rw [show pkL (.int i) = 4 :: enc (-1 - i).toNat by simp [pkL, hn]]
      exact bytes_cons (by decide) (enc_bytes _)
    · rw [show pkL (.int i) = 3 :: enc i.toNat by simp [pkL, hn]]
      exact bytes_cons (by decide) (enc_bytes _)
  | m, .str x, h => by
    rw [okV_str, Bool.and_eq_true] at h
    rw [show pkL (.str x) = 5 :: (enc x.length ++ x.cps.toList.map fun (c : Nat) => (c : Int) - 32) by simp [pkL]]
    exact bytes_cons (by decide) (bytes_app (enc_bytes _) (bits_mono x h.2))
  | 0, .tuple ds, h => by rw [okV_tup0] at h; cases h
  | m + 1, .tuple ds, h => by
    rw [okV_tup, Bool.and_eq_true] at h
    rw [show pkL (.tuple ds) = 6 :: (enc ds.length ++ pkA ds) by simp [pkL]]
    exact bytes_cons (by decide) (bytes_app (enc_bytes _) (pkA_bytes m ds h.2))
  | _, .list ds, h => by rw [okV_lst] at h; cases h
  | m, .dict ds, h => by cases m <;> simp [okV] at h
theorem pkA_bytes : ∀ (m : Nat) (ds : List PyData), okA m ds = true → Bytes (pkA ds)
  | _, [], _ => fun _ z => by cases z
  | m, d :: ds, h => by
    simp only [okA, Bool.and_eq_true] at h
    rw [show pkA (d :: ds) = pkL d ++ pkA ds by simp [pkA]]
    exact bytes_app (pk_bytes m d h.1) (pkA_bytes m ds h.2)
end
/-! the draws of a script: many numbers from 0 to 996 -/
def Drawn (ds : List Int) : Prop := ∀ d ∈ ds, 0 ≤ d ∧ d < 997
theorem drawn_app {ds es : List Int} (h : Drawn ds) (g : Drawn es) : Drawn (ds ++ es) := fun d hd => (List.mem_append.mp hd).elim (h d) (g d)
theorem drawn_one {d : Int} (h : 0 ≤ d) (g : d < 997) : Drawn [d] := fun e he => by rw [List.mem_singleton] at he; subst he; exact ⟨h, g⟩
theorem drawn_take {ds : List Int} (n : Nat) (h : Drawn ds) : Drawn (ds.take n) := fun d hd => h d (List.mem_of_mem_take hd)
def sp_draws (K : PySem.W.Frag) : Sp := fun vs H Q _ => ∃ (a : Addr) (ns : List Int) (many : Nat), vs = [.ref a, .int (many : Int)] ∧ SqL K H a (ns.map V.int) ∧ ns.length ≤ 63 ∧ many ≤ 1000 ∧
  ∀ (p : Addr) (H' : Hp) (ds : List Int), H p = none → Same H H' → H' p = some (.lst (ds.map V.int)) → Drawn ds → ds.length = many → Q (.ref p) H'
section
variable {P : Program} {w : World} {K : PySem.W.Frag} {mg : Str → Option Value} {base : Heap}
theorem ok__law_draws (T : TX K mg) : FnOk P w K mg base CX0 1 T.a__law_draws T.d__law_draws ["script", "many"] (sp_draws K) := by
  refine T.F__law_draws.ok sc__law_draws (fun vs H Q E h => ?_) (fun cdv A outer s H vs Q E hr h => ?_)
  · obtain ⟨a, ns, many, rfl, _⟩ := h
    rfl
  · obtain ⟨a, ns, many, rfl, hS, hlen, hm, q⟩ := h
    refine ⟨_, (pss_cons (ps_set (i := 2) sc__law_draws.nd rfl (Or.inl rfl) (pe_lst pa_nil))
      (pss_cons (ps_set (i := 3) sc__law_draws.nd rfl (Or.inl rfl) pe_int)
      (pss_cons (ps_for PassesOwn.never rfl (pi_range1 (by rfl) T.n_range (pa_cons (pe_callB call_len_seq (by rfl) T.n_len PySem.boot_len (pa_cons (pv 0) pa_nil)) pa_nil)) (pg_name (i := 4) sc__law_draws.nd rfl (Or.inl rfl))
        (pss_cons (ps_set (i := 5) sc__law_draws.nd rfl (Or.inl rfl) (pe_callB call_abs (by rfl) T.n_abs (by decide +kernel) (pa_cons (pe_callTy call_int1 (by rfl) T.n_int (by decide +kernel) (pa_cons (pe_ix ix_list (pv 0) (pv 4) (fun _ _ => rfl)) pa_nil)) pa_nil)))
        (pss_cons (ps_set (i := 3) sc__law_draws.nd rfl (Or.inl rfl) (pe_op op_mod (pe_callTy call_int1 (by rfl) T.n_int (by decide +kernel) (pa_cons (pe_op op_add (pe_op op_add (pe_op op_mul (pv 3) pe_int) (pe_op op_mod (pv 5) pe_int)) (pv 4)) pa_nil)) pe_int))
        (pss_cons (ps_set (i := 6) sc__law_draws.nd rfl (Or.inl rfl) pe_int)
        (C8.pss_cut (ps_if (pt_cmpR op_ge (pv 5) (pe_op op_pow pe_int pe_int) (nomark _)) (pss_one (ps_set (i := 6) sc__law_draws.nd rfl (Or.inl rfl) (pv 5))) (pss_cons (ps_expr (pe_bm PySem.F.plainAttrs_list PySem.F.slot_list_append PySem.F.type_list_append mt_append (pv 2) (pa_cons (pe_op op_mod (pv 5) pe_int) pa_nil)))
          (pss_one (ps_expr (pe_bm PySem.F.plainAttrs_list PySem.F.slot_list_append PySem.F.type_list_append mt_append (pv 2) (pa_cons (pe_op op_mod (pe_op op_mod (pe_callTy call_int1 (by rfl) T.n_int (by decide +kernel) (pa_cons (pe_op op_add (pe_op op_mul (pv 3) pe_int) pe_int) pa_nil)) pe_int) pe_int) pa_nil))))))
        (pss_one (ps_for PassesOwn.never rfl (pi_range1 (by rfl) T.n_range (pa_cons pe_int pa_nil)) (pg_name (i := 7) sc__law_draws.nd rfl (Or.inl rfl))
          (pss_one (ps_if (pt_cmpR op_gt (pv 6) pe_int (nomark _)) (pss_cons (ps_expr (pe_bm PySem.F.plainAttrs_list PySem.F.slot_list_append PySem.F.type_list_append mt_append (pv 2) (pa_cons (pe_op op_mod (pe_callTy call_int1 (by rfl) T.n_int (by decide +kernel) (pa_cons (pv 6) pa_nil)) pe_int) pa_nil)))
            (pss_one (ps_set (i := 6) sc__law_draws.nd rfl (Or.inl rfl) (pe_op op_fdiv (pv 6) pe_int)))) pss_nil)))))))))
      (pss_cons (ps_for PassesOwn.never rfl (pi_range1 (by rfl) T.n_range (pa_cons (pv 1) pa_nil)) (pg_name (i := 4) sc__law_draws.nd rfl (Or.inl rfl))
        (pss_cons (ps_set (i := 3) sc__law_draws.nd rfl (Or.inl rfl) (pe_op op_mod (pe_callTy call_int1 (by rfl) T.n_int (by decide +kernel) (pa_cons (pe_op op_add (pe_op op_add (pe_op op_mul (pv 3) pe_int) (pv 4)) pe_int) pa_nil)) pe_int))
        (pss_one (ps_expr (pe_bm PySem.F.plainAttrs_list PySem.F.slot_list_append PySem.F.type_list_append mt_append (pv 2) (pa_cons (pe_op op_mod (pe_callTy call_int1 (by rfl) T.n_int (by decide +kernel) (pa_cons (pv 3) pa_nil)) pe_int) pa_nil))))))
      (pss_one (ps_ret (pe_slice sl_list (pv 2) po_none (po_some (pv 1))))))))), ?_⟩
    refine ⟨Nat.zero_le _, fun o ho => ?_⟩
    have s1 := same_upd (o := .lst []) ho
    -- each cell
    refine ⟨_, rfl, a, _, rfl, .inl (s1.seq hS), _, rfl, by rw [List.length_map]; omega, by rw [List.length_map]; omega, for_range (lo := 0) (n := _) (fun i σ H2 => ∃ (ds : List Int) (mx : Int) (x4 x5 x6 x7 : Option V), σ = [some (.ref a), some (.int (many : Int)), some (.ref o), some (.int mx), x4, x5, x6, x7] ∧ Same H H2 ∧ H2 o = some (.lst (ds.map V.int)) ∧ Drawn ds ∧ ds.length ≤ 62 * i)
      ⟨[], 7, none, none, none, none, rfl, s1, upd_same, (fun _ h => by cases h), Nat.le_refl _⟩ ?_ ?_⟩
    · rintro i σ H2 hi ⟨ds, mx, x4, x5, x6, x7, rfl, g1, g2, g3, g4⟩
      rw [List.length_map] at hi
      have hi' : i < ns.length := by omega
      have hg : ns[i]? = some ns[i] := List.getElem?_eq_getElem hi'
      have ha : atI (ns.map V.int) (0 + (i : Int)) = some (.int ns[i]) := by rw [Int.zero_add]; exact at_map hg
      generalize ns[i] = c at ha
      -- cell, mixed
      refine ⟨_, rfl, _, rfl, a, _, _, _, rfl, rfl, g1.seq hS, ha, .inl ⟨_, rfl, _, rfl, ?_⟩⟩
      dsimp only
      have hc : 0 ≤ (if c < 0 then -c else c) := by split <;> omega
      generalize (if c < 0 then -c else c) = cell at hc
      refine ⟨_, rfl, _, _, rfl, rfl, .inr ⟨by decide, by decide⟩, _, rfl, _, _, rfl, rfl, (by show (0 : Int) < _; decide), _, _, rfl, rfl, _, rfl, _, _, rfl, rfl, .inl ⟨_, rfl, _, _, rfl, rfl, (by show (0 : Int) < _; decide), ?_⟩⟩
      dsimp only
      generalize (mx * 48271 + cell % 1000003 + (0 + (i : Int))) % 65537 = mx2
      -- rest = 0; if cell >= 10 ** 18
      refine ⟨fun σ' H' => ∃ (ds' : List Int) (rest : Int) , 0 ≤ rest ∧ σ' = [some (.ref a), some (.int (many : Int)), some (.ref o), some (.int mx2), some (.int (0 + (i : Int))), some (.int cell), some (.int rest), x7] ∧ Same H H' ∧ H' o = some (.lst (ds'.map V.int)) ∧ Drawn ds' ∧ ds'.length ≤ 62 * i + 2, ?_, ?_⟩
      · refine ⟨_, rfl, _, _, rfl, rfl, ⟨by decide, by decide, by decide⟩, _, _, rfl, rfl, _, rfl, ifd (fun hb => ?_) (fun hb => ?_)⟩
        · exact ⟨_, rfl, ds, cell, hc, rfl, g1, g2, g3, by omega⟩
        · refine ⟨_, rfl, .inl ⟨rfl, _, sql g2⟩, _, rfl, _, _, rfl, rfl, (by show (0 : Int) < _; decide), o, _, _, rfl, rfl, g2, szl (by rw [List.length_map]; omega), ?_⟩
          refine ⟨_, rfl, .inl ⟨rfl, _, sql upd_same⟩, _, rfl, _, _, rfl, rfl, .inr ⟨by decide, by decide⟩, _, _, rfl, rfl, .inl ⟨_, rfl, _, _, rfl, rfl, (by show (0 : Int) < _; decide), _, _, rfl, rfl, (by show (0 : Int) < _; decide), o, _, _, rfl, rfl, upd_same, szl (by rw [List.length_append, List.length_map]; simp only [List.length_cons, List.length_nil]; omega), ?_⟩⟩
          refine ⟨ds ++ [cell % 997, (mx2 * 69621 + 5) % 65521 % 997], 0, Int.le_refl _, rfl, same_put (same_put g1 ho) ho, ?_, drawn_app g3 fun d hd => ?_, by rw [List.length_append]; simp only [List.length_cons, List.length_nil]; omega⟩
          · rw [upd_same, List.map_append, List.append_assoc]
            rfl
          · simp only [List.mem_cons, List.not_mem_nil, or_false] at hd
            rcases hd with rfl | rfl
            · exact ⟨Int.emod_nonneg _ (by decide), Int.emod_lt_of_pos _ (by decide)⟩
            · exact ⟨Int.emod_nonneg _ (by decide), Int.emod_lt_of_pos _ (by decide)⟩
      rintro σ' H' ⟨ds', rest, hr0, rfl, k1, k2, k3, k4⟩
      -- sixty times
      refine ⟨60, rfl, by decide, by decide, for_range (lo := 0) (n := 60) (fun j σ H3 => ∃ (es : List Int) (rest : Int) (x7 : Option V), 0 ≤ rest ∧ σ = [some (.ref a), some (.int (many : Int)), some (.ref o), some (.int mx2), some (.int (0 + (i : Int))), some (.int cell), some (.int rest), x7] ∧ Same H H3 ∧ H3 o = some (.lst (es.map V.int)) ∧ Drawn es ∧ es.length ≤ 62 * i + 2 + j)
        ⟨ds', rest, x7, hr0, rfl, k1, k2, k3, k4⟩ ?_ ?_⟩
      · rintro j σ H3 hj ⟨es, rest, x7, h0, rfl, k1, k2, k3, k4⟩
        refine ⟨_, rfl, _, _, rfl, rfl, _, rfl, ifd (fun hb => ?_) (fun hb => ?_)⟩
        · refine ⟨_, rfl, .inl ⟨rfl, _, sql k2⟩, _, rfl, .inl ⟨_, rfl, _, _, rfl, rfl, (by show (0 : Int) < _; decide), o, _, _, rfl, rfl, k2, szl (by rw [List.length_map]; omega), ?_⟩⟩
          refine ⟨_, rfl, _, _, rfl, rfl, ⟨by decide, by decide⟩, ?_⟩
          refine ⟨es ++ [rest % 997], rest / 997, some (.int (0 + (j : Int))), Int.ediv_nonneg h0 (by decide), rfl, same_put k1 ho, ?_, drawn_app k3 (drawn_one (Int.emod_nonneg _ (by decide)) (Int.emod_lt_of_pos _ (by decide))), by rw [List.length_append]; simp only [List.length_cons, List.length_nil]; omega⟩
          rw [upd_same, List.map_append]
          rfl
        · exact ⟨es, rest, some (.int (0 + (j : Int))), h0, rfl, k1, k2, k3, by omega⟩
      · rintro σ H3 ⟨es, rest, x7, h0, rfl, k1, k2, k3, k4⟩
        exact ⟨es, mx2, _, _, _, _, rfl, k1, k2, k3, by omega⟩
    · rintro σ H2 ⟨ds, mx, x4, x5, x6, x7, rfl, g1, g2, g3, g4⟩
      have hl0 : ds.length ≤ 4000 := by
        simp only [List.length_map] at g4
        omega
      refine ⟨_, rfl, (many : Int), rfl, by omega, by omega, for_range (lo := 0) (n := (many : Int).toNat) (fun i σ H3 => ∃ (es : List Int) (mx : Int) (x4 : Option V), σ = [some (.ref a), some (.int (many : Int)), some (.ref o), some (.int mx), x4, x5, x6, x7] ∧ Same H H3 ∧ H3 o = some (.lst (es.map V.int)) ∧ Drawn es ∧ es.length = ds.length + i)
        ⟨ds, mx, x4, rfl, g1, g2, g3, rfl⟩ ?_ ?_⟩
      · rintro i σ H3 hi ⟨es, mx, x4, rfl, k1, k2, k3, k4⟩
        refine ⟨_, rfl, _, _, rfl, rfl, .inr ⟨by decide, by decide⟩, _, rfl, _, _, rfl, rfl, _, _, rfl, rfl, .inl ⟨_, rfl, _, _, rfl, rfl, (by show (0 : Int) < _; decide), ?_⟩⟩
        refine ⟨_, rfl, .inl ⟨rfl, _, sql k2⟩, _, rfl, .inl ⟨_, rfl, _, _, rfl, rfl, (by show (0 : Int) < _; decide), o, _, _, rfl, rfl, k2, szl (by rw [List.length_map]; omega), ?_⟩⟩
        refine ⟨es ++ [(mx * 16807 + (0 + (i : Int)) + 1) % 65537 % 997], (mx * 16807 + (0 + (i : Int)) + 1) % 65537, some (.int (0 + (i : Int))), rfl, same_put k1 ho, ?_, drawn_app k3 (drawn_one (Int.emod_nonneg _ (by decide)) (Int.emod_lt_of_pos _ (by decide))), by rw [List.length_append, k4]; simp only [List.length_cons, List.length_nil]; omega⟩
        rw [upd_same, List.map_append]
        rfl
      · rintro σ H3 ⟨es, mx, x4, rfl, k1, k2, k3, k4⟩
        refine ⟨_, rfl, _, rfl, _, rfl, o, _, rfl, sql k2, fun p hp => ?_⟩
        refine q p _ (es.take many) (k1.free hp) (k1.trans (same_upd hp)) ?_ (drawn_take _ k3) (by rw [List.length_take]; omega)
        rw [upd_same, cut0n, List.map_take]
end
/-! an int that is no bool -/
def sp_isint : Sp := fun vs H Q _ => ∃ (i : Int), vs = [.int i] ∧ Q (.bl true) H
section
variable {P : Program} {w : World} {K : PySem.W.Frag} {mg : Str → Option Value} {base : Heap}
theorem ok__law_is_integer (T : TX K mg) : FnOk P w K mg base CX0 1 T.a__law_is_integer T.d__law_is_integer ["actual"] sp_isint := by
  refine T.F__law_is_integer.ok sc__law_is_integer (fun vs H Q E h => ?_) (fun cdv A outer s H vs Q E hr h => ?_)
  · obtain ⟨i, rfl, _⟩ := h
    rfl
  · obtain ⟨i, rfl, q⟩ := h
    refine ⟨_, (pss_one (ps_ret (pe_and (pe_callB call_isi (by rfl) T.n_isinstance (by decide +kernel) (pa_cons (pv 0) (pa_cons (pe_bltn (v := .ty "int") (u := .type "int") (by rfl) T.n_int (by decide +kernel) rfl) pa_nil))) (pe_one (pe_not (pe_callB call_isi (by rfl) T.n_isinstance (by decide +kernel) (pa_cons (pv 0) (pa_cons (pe_bltn (v := .ty "bool") (u := .type "bool") (by rfl) T.n_bool (by decide +kernel) rfl) pa_nil)))))))), ?_⟩
    refine ⟨.int i, rfl, .int i, .ty "int", .type "int", .type "int", true, rfl, .ty _, .base (.int i), kit_ty (by decide +kernel), true, rfl, ifbt rfl ?_⟩
    refine ⟨.int i, rfl, .int i, .ty "bool", .type "int", .type "bool", false, rfl, .ty _, .base (.int i), kit_ty (by decide +kernel), false, rfl, ?_⟩
    exact q
end
/-! a text, many times over -/
theorem fold_cps : ∀ (k : Nat) (x acc : Array Nat), ((List.replicate k x).foldl (· ++ ·) acc).toList = acc.toList ++ (List.replicate k x.toList).flatten
  | 0, x, acc => by simp
  | k + 1, x, acc => by
    rw [List.replicate_succ, List.foldl_cons, fold_cps k, List.replicate_succ, List.flatten_cons, Array.toList_append, List.append_assoc]
theorem mul_list {x : Str} {n : Int} (hn : 1 ≤ n) : (PySem.Txt.mul x n).cps.toList = (List.replicate n.toNat x.cps.toList).flatten := by
  unfold PySem.Txt.mul
  rw [if_neg (by omega)]
  split
  · rename_i h
    rw [Bool.or_eq_true, beq_iff_eq, beq_iff_eq] at h
    rcases h with h | h
    · subst h
      simp
    · have : x.cps.toList = [] := List.eq_nil_of_length_eq_zero (by rw [← zlen]; exact h)
      rw [this]
      simp
  · have := fold_cps n.toNat x.cps #[]
    rw [this]
    rfl
theorem mul_len {x : Str} {n : Int} (hn : 1 ≤ n) : (PySem.Txt.mul x n).length = n.toNat * x.length := by
  rw [zlen, zlen, mul_list hn]
  simp
def rRepS : R2 := fun x y H Q => ∃ i n, x = .str i ∧ y = .int n ∧ 1 ≤ n ∧ n ≤ 100000 ∧ n.toNat * i.length ≤ 100000 ∧ Q (.str (PySem.Txt.mul i n)) H
theorem op_repS {X : Cx} : OpR X (binaryOp .Mult) rRepS := by
  intro pins s σ H x y v u Q I rx ry h
  obtain ⟨i, n, rfl, rfl, h1, h2, h3, q⟩ := h
  obtain ⟨t, rfl⟩ := rx
  obtain ⟨t', rfl⟩ := ry
  refine PySem.SB.mul ⟨?_, fun _ hx => ?_, fun _ _ => ?_⟩ fun t' k => ⟨.str (PySem.Txt.mul i n), H, I.tok _, ⟨_, rfl⟩, q⟩
  · rw [Bool.or_eq_false_iff]
    exact ⟨decide_eq_false (by omega), decide_eq_false (by omega)⟩
  · have h4 : i.length ≤ 100000 := by
      have : 1 * i.length ≤ n.toNat * i.length := Nat.mul_le_mul_right _ (by omega)
      omega
    have h5 : (2 ^ 63 - 1 : Int) / 100000 ≤ (2 ^ 63 - 1) / n := by
      rw [Int.le_ediv_iff_mul_le (by omega)]
      have : (2 ^ 63 - 1 : Int) / 100000 * n ≤ (2 ^ 63 - 1 : Int) / 100000 * 100000 := Int.mul_le_mul_of_nonneg_left h2 (by decide)
      omega
    omega
  · show decide (i.length * n.toNat > sizeLine) = false
    rw [Nat.mul_comm]
    exact decide_eq_false (by rw [sizeLine_eq]; omega)
/-! the law's own packing, of numbers below 128 ^ 40 -/
def LimL : Nat := 128 ^ 40
mutual
def smD : PyData → Bool
  | .int i => decide (-1000000000000 < i) && decide (i < 1000000000000)
  | .tuple ds => smA ds
  | _ => true
def smA : List PyData → Bool
  | [] => true
  | d :: ds => smD d && smA ds
end
theorem smA_at : ∀ {ds : List PyData} {i : Nat} {d : PyData}, smA ds = true → ds[i]? = some d → smD d = true
  | [], _, _, _, e => by simp at e
  | d :: ds, 0, x, h, e => by
    simp only [smA, Bool.and_eq_true] at h
    have : d = x := by simpa using e
    rw [← this]; exact h.1
  | d :: ds, i + 1, _, h, e => by
    simp only [smA, Bool.and_eq_true] at h
    exact smA_at (i := i) h.2 (by simpa using e)
theorem limL_small {n : Nat} (h : n ≤ 1000000000000) : n < LimL := by unfold LimL; exact Nat.lt_of_le_of_lt h (by decide)
theorem enc_limL {n : Nat} (h : n < LimL) : (enc n).length ≤ 40 := enc_len 39 n h
def sp_lnum (K : PySem.W.Frag) : Sp := fun vs H Q _ => ∃ (n : Nat), vs = [.int (n : Int)] ∧ n < LimL ∧ ∀ p H', H p = none → Same H H' → H' p = some (.lst ((enc n).map V.int)) → Q (.ref p) H'
def spLP (K : PySem.W.Frag) : Nat → Sp
  | 0 => fun _ _ _ _ => False
  | n + 1 => fun vs H Q _ => ∃ (v : V) (d : PyData), vs = [v] ∧ Dp K H v d ∧ okV n d = true ∧ smD d = true ∧ (pkL d).length ≤ 90000 ∧ ∀ p H', H p = none → Same H H' → H' p = some (.lst ((pkL d).map V.int)) → Q (.ref p) H'
section
variable {P : Program} {w : World} {K : PySem.W.Frag} {mg : Str → Option Value} {base : Heap}
end
/-! the two sums -/
def sumStep (s : Int × Int) (b : Int) : Int × Int := ((s.1 + b + 1) % 65521, (s.2 + (s.1 + b + 1) % 65521) % 65521)
def sums (s : Int × Int) (bs : List Int) : Int × Int := bs.foldl sumStep s
theorem sums_more {s : Int × Int} {bs : List Int} {i : Nat} {b : Int} (h : bs[i]? = some b) : sums s (bs.take (i + 1)) = sumStep (sums s (bs.take i)) b := by
  unfold sums
  rw [take_more h, List.foldl_append]
  rfl
theorem sums_app (s : Int × Int) (bs cs : List Int) : sums s (bs ++ cs) = sums (sums s bs) cs := List.foldl_append
def sp_checksum (K : PySem.W.Frag) : Sp := fun vs H Q _ => ∃ (a t : Addr) (bs : List Int) (x y : Int), vs = [.ref a, .ref t] ∧ SqL K H a (bs.map V.int) ∧ SqT K H t [.int x, .int y] ∧ ∀ p H', H p = none → Same H H' → H' p = some (.tup [.int (sums (x, y) bs).1, .int (sums (x, y) bs).2]) → Q (.ref p) H'
section
variable {P : Program} {w : World} {K : PySem.W.Frag} {mg : Str → Option Value} {base : Heap}
theorem ok_checksum (T : TX K mg) : FnOk P w K mg base CX0 1 T.a_checksum T.d_checksum ["row", "start"] (sp_checksum K) := by
  refine okD T.FD_checksum sc_checksum (fun vs H Q E h => ?_) (fun cdv A outer s H vs Q E hr h => ?_)
  · obtain ⟨a, t, bs, x, y, rfl, _⟩ := h
    rfl
  · obtain ⟨a, t, bs, x, y, rfl, hS, hT, q⟩ := h
    refine ⟨_, (pss_cons (ps_asg (pv 1) (pg_tup (by rfl) (pgs_cons (pg_name (i := 2) sc_checksum.nd rfl (Or.inl rfl)) (pgs_cons (pg_name (i := 3) sc_checksum.nd rfl (Or.inl rfl)) pgs_nil))))
      (pss_cons (ps_for PassesOwn.never rfl (pi_list (pv 0)) (pg_name (i := 4) sc_checksum.nd rfl (Or.inl rfl))
        (pss_cons (ps_set (i := 2) sc_checksum.nd rfl (Or.inl rfl) (pe_op op_mod (pe_op op_add (pe_op op_add (pv 2) (pv 4)) pe_int) (pe_glob (v := .int 65521) (by rfl) T.c_MODULUS ⟨_, rfl⟩)))
        (pss_one (ps_set (i := 3) sc_checksum.nd rfl (Or.inl rfl) (pe_op op_mod (pe_op op_add (pv 3) (pv 2)) (pe_glob (v := .int 65521) (by rfl) T.c_MODULUS ⟨_, rfl⟩))))))
      (pss_one (ps_ret (pe_tup (pa_cons (pv 2) (pa_cons (pv 3) pa_nil))))))), ?_⟩
    refine ⟨_, rfl, t, _, rfl, hT, rfl, .int x, [.int y], rfl, .int y, [], rfl, rfl, ?_⟩
    refine ⟨_, rfl, a, rfl, ⟨_, hS⟩, for_list (K := K) (a := a) (xs := bs.map V.int) (fun i σ H2 => H = H2 ∧ ∃ x4, σ = [some (.ref a), some (.ref t), some (.int (sums (x, y) (bs.take i)).1), some (.int (sums (x, y) (bs.take i)).2), x4])
      ⟨rfl, none, rfl⟩ (fun i σ H2 _ ⟨e, _⟩ => by rw [← e]; exact hS) ?_ ?_⟩
    · rintro i v σ _ hx ⟨rfl, x4, rfl⟩
      obtain ⟨b, hb, rfl⟩ := map_at hx
      have hm := sums_more (s := (x, y)) hb
      refine ⟨_, rfl, _, rfl, _, _, rfl, rfl, _, _, rfl, rfl, _, _, rfl, rfl, (by show (0 : Int) < _; decide), ?_⟩
      refine ⟨_, rfl, _, rfl, _, _, rfl, rfl, _, _, rfl, rfl, (by show (0 : Int) < _; decide), ?_⟩
      refine ⟨rfl, some (.int b), ?_⟩
      rw [hm]
      rfl
    · rintro σ _ ⟨rfl, x4, rfl⟩
      rw [List.length_map, List.take_length]
      exact ⟨_, rfl, _, rfl, (by show 2 ≤ sizeLine; decide), fun p hp => q p _ hp (same_upd hp) upd_same⟩
end
/-! two changed bytes change the sums -/
def sA : List Int → Int
  | [] => 0
  | b :: bs => b + 1 + sA bs
def sB : List Int → Int
  | [] => 0
  | b :: bs => ((bs.length : Int) + 1) * (b + 1) + sB bs
/-- the same rest by 65521 -/
def Cg (a b : Int) : Prop := ∃ k : Int, a = b + 65521 * k
theorem Cg.refl (a : Int) : Cg a a := ⟨0, by omega⟩
theorem Cg.symm {a b : Int} (h : Cg a b) : Cg b a := by
  obtain ⟨k, e⟩ := h
  exact ⟨-k, by omega⟩
theorem Cg.trans {a b c : Int} (h : Cg a b) (g : Cg b c) : Cg a c := by
  obtain ⟨k, e⟩ := h
  obtain ⟨l, f⟩ := g
  exact ⟨k + l, by omega⟩
theorem cg_mod (a : Int) : Cg (a % 65521) a := ⟨-(a / 65521), by omega⟩
theorem Cg.add {a b c d : Int} (h : Cg a b) (g : Cg c d) : Cg (a + c) (b + d) := by
  obtain ⟨k, e⟩ := h
  obtain ⟨l, f⟩ := g
  exact ⟨k + l, by omega⟩
theorem Cg.mul (n : Int) {a b : Int} (h : Cg a b) : Cg (n * a) (n * b) := by
  obtain ⟨k, e⟩ := h
  exact ⟨n * k, by rw [e, Int.mul_add, Int.mul_left_comm]⟩
theorem sums_cg : ∀ (bs : List Int) (x y : Int), Cg (sums (x, y) bs).1 (x + sA bs) ∧ Cg (sums (x, y) bs).2 (y + (bs.length : Int) * x + sB bs)
  | [], x, y => ⟨by rw [sA, Int.add_zero]; exact .refl _, by
      rw [sB]
      show Cg y (y + (0 : Nat) * x + 0)
      have : y + ((0 : Nat) : Int) * x + 0 = y := by rw [Int.natCast_zero, Int.zero_mul]; omega
      rw [this]
      exact .refl _⟩
  | b :: bs, x, y => by
    have ih := sums_cg bs ((x + b + 1) % 65521) ((y + (x + b + 1) % 65521) % 65521)
    have c1 := cg_mod (x + b + 1)
    have c2 := (cg_mod (y + (x + b + 1) % 65521)).trans ((Cg.refl y).add c1)
    have e : sums (x, y) (b :: bs) = sums ((x + b + 1) % 65521, (y + (x + b + 1) % 65521) % 65521) bs := rfl
    rw [e]
    refine ⟨ih.1.trans ?_, ih.2.trans ?_⟩
    · have h := c1.add (.refl (sA bs))
      have q : x + b + 1 + sA bs = x + sA (b :: bs) := by rw [sA]; omega
      rw [q] at h
      exact h
    · have h := (c2.add (c1.mul (bs.length : Int))).add (.refl (sB bs))
      have q : y + (x + b + 1) + (bs.length : Int) * (x + b + 1) + sB bs = y + ((b :: bs).length : Int) * x + sB (b :: bs) := by
        rw [sB, List.length_cons, Int.natCast_add, Int.add_assoc x b 1, Int.mul_add, Int.add_mul, Int.add_mul]
        simp only [Int.natCast_one, Int.one_mul]
        omega
      rw [q] at h
      exact h
theorem sA_set : ∀ {bs : List Int} {i : Nat} {r : Int} (u : Int), bs[i]? = some r → sA (bs.set i u) = sA bs + (u - r)
  | [], i, r, u, h => by simp at h
  | b :: bs, 0, r, u, h => by
    have e : b = r := Option.some.inj h
    show u + 1 + sA bs = b + 1 + sA bs + (u - r)
    omega
  | b :: bs, i + 1, r, u, h => by
    have ih := sA_set (bs := bs) (i := i) u (by simpa using h)
    show b + 1 + sA (bs.set i u) = b + 1 + sA bs + (u - r)
    omega
theorem sB_set : ∀ {bs : List Int} {i : Nat} {r : Int} (u : Int), bs[i]? = some r → sB (bs.set i u) = sB bs + ((bs.length : Int) - i) * (u - r)
  | [], i, r, u, h => by simp at h
  | b :: bs, 0, r, u, h => by
    have e : b = r := Option.some.inj h
    show ((bs.length : Int) + 1) * (u + 1) + sB bs = ((bs.length : Int) + 1) * (b + 1) + sB bs + (((b :: bs).length : Int) - (0 : Nat)) * (u - r)
    rw [List.length_cons, Int.natCast_add, ← e]
    have q : ((bs.length : Int) + ((1 : Nat) : Int) - ((0 : Nat) : Int)) = (bs.length : Int) + 1 := by omega
    rw [q, Int.mul_sub, Int.mul_add, Int.mul_add]
    omega
  | b :: bs, i + 1, r, u, h => by
    have ih := sB_set (bs := bs) (i := i) u (by simpa using h)
    show (((bs.set i u).length : Int) + 1) * (b + 1) + sB (bs.set i u) = ((bs.length : Int) + 1) * (b + 1) + sB bs + (((b :: bs).length : Int) - ((i + 1 : Nat) : Int)) * (u - r)
    have q : (((b :: bs).length : Int) - ((i + 1 : Nat) : Int)) = (bs.length : Int) - i := by rw [List.length_cons]; omega
    rw [q, ih, List.length_set]
    omega
theorem cop : ∀ d : Nat, d < 256 → d ≠ 0 → Nat.Coprime 65521 d := by
  have h : (List.range 256).all (fun d => d == 0 || Nat.gcd 65521 d == 1) = true := by decide +kernel
  intro d hd h0
  have := List.all_eq_true.mp h d (List.mem_range.mpr hd)
  simp only [Bool.or_eq_true, beq_iff_eq] at this
  exact this.resolve_left h0
/-- 65521 divides no product of a small number and one below it -/
theorem no_prod {a d k : Int} (h : a * d = 65521 * k) (ha : a.natAbs < 65521) (hd : d.natAbs < 256) : a = 0 ∨ d = 0 := by
  by_cases h0 : d = 0
  · exact .inr h0
  · left
    have e : a.natAbs * d.natAbs = 65521 * k.natAbs := by
      rw [← Int.natAbs_mul, h, Int.natAbs_mul]
      rfl
    have dv : 65521 ∣ a.natAbs * d.natAbs := ⟨k.natAbs, e⟩
    have c := cop d.natAbs hd (by omega)
    have := c.dvd_of_dvd_mul_right dv
    have z := Nat.eq_zero_of_dvd_of_lt this ha
    omega
theorem sums_pos (s : Int × Int) : ∀ {bs : List Int}, bs ≠ [] → 0 ≤ (sums s bs).1 ∧ (sums s bs).1 < 65521 ∧ 0 ≤ (sums s bs).2 ∧ (sums s bs).2 < 65521 := by
  intro bs h
  obtain ⟨cs, b, rfl⟩ : ∃ cs b, bs = cs ++ [b] := ⟨bs.dropLast, bs.getLast h, (List.dropLast_concat_getLast h).symm⟩
  rw [sums_app]
  show 0 ≤ (sumStep (sums s cs) b).1 ∧ _ ∧ 0 ≤ (sumStep (sums s cs) b).2 ∧ _
  unfold sumStep
  exact ⟨Int.emod_nonneg _ (by decide), Int.emod_lt_of_pos _ (by decide), Int.emod_nonneg _ (by decide), Int.emod_lt_of_pos _ (by decide)⟩
/-- THE PROMISE: one or two changed places change the sums -/
theorem two_changed {bs : List Int} {i j : Nat} {u v r t : Int} (x y : Int) (hl : bs.length ≤ 65000) (hi : bs[i]? = some r) (hj : (bs.set i u)[j]? = some t) (hu : 0 ≤ u ∧ u < 256) (hv : 0 ≤ v ∧ v < 256) (hb : ∀ b ∈ bs, 0 ≤ b ∧ b < 256)
    (h : sums (x, y) ((bs.set i u).set j v) = sums (x, y) bs) : (bs.set i u).set j v = bs := by
  have li : i < bs.length := (List.getElem?_eq_some_iff.mp hi).1
  have lj : j < bs.length := by have := (List.getElem?_eq_some_iff.mp hj).1; rwa [List.length_set] at this
  have hr := hb r (List.mem_of_getElem? hi)
  have ht : 0 ≤ t ∧ t < 256 := by
    rcases List.mem_or_eq_of_mem_set (List.mem_of_getElem? hj) with q | q
    · exact hb t q
    · rw [q]; exact hu
  have c := sums_cg ((bs.set i u).set j v) x y
  have c0 := sums_cg bs x y
  rw [h] at c
  have k1 := (c0.1.symm.trans c.1)
  have k2 := (c0.2.symm.trans c.2)
  rw [sA_set v hj, sA_set u hi] at k1
  rw [sB_set v hj, sB_set u hi, List.length_set, List.length_set] at k2
  obtain ⟨m1, e1⟩ := k1
  obtain ⟨m2, e2⟩ := k2
  have d12 : (u - r) + (v - t) = 0 := by omega
  by_cases hij : i = j
  · subst hij
    rw [List.getElem?_set_self (by omega)] at hj
    have e : u = t := Option.some.inj hj
    have : v = r := by omega
    rw [List.set_set, this]
    exact set_self hi
  · have e : ((j : Int) - i) * (u - r) = 65521 * (-m2) := by
      have hv' : v - t = -(u - r) := by omega
      rw [hv', Int.mul_neg] at e2
      have q : ((j : Int) - i) * (u - r) = ((bs.length : Int) - i) * (u - r) - ((bs.length : Int) - j) * (u - r) := by
        rw [← Int.sub_mul]
        congr 1
        omega
      rw [q]
      omega
    rcases no_prod e (by omega) (by omega) with z | z
    · omega
    · have hu' : u = r := by omega
      subst hu'
      rw [set_self hi] at hj ⊢
      have : v = t := by omega
      subst this
      exact set_self hj
/-! sectors -/
def chk (bs : List Int) : List Int := [(sums (1, 1) bs).1 % 256, (sums (1, 1) bs).1 / 256, (sums (1, 1) bs).2 % 256, (sums (1, 1) bs).2 / 256]
def secBody (kind : Int) (pl : List Int) : List Int := [kind, (pl.length : Int)] ++ pl ++ List.replicate (58 - pl.length) 0
def sec (b : List Int) : List Int := chk b ++ b
inductive Sr where
  | blank
  | ok (kind : Int) (pl : List Int)
  | bad
def rdB : List Int → Sr
  | k :: l :: rest => if k < 1 ∨ 9 < k then .bad else if 58 < l then .bad else if rest.drop l.toNat = List.replicate (rest.drop l.toNat).length 0 then .ok k (rest.take l.toNat) else .bad
  | _ => .bad
def rdS (bs : List Int) : Sr := if bs = List.replicate 64 0 then .blank else if bs.take 4 = chk (bs.drop 4) then rdB (bs.drop 4) else .bad
theorem chk_len (b : List Int) : (chk b).length = 4 := rfl
theorem sec_drop (b : List Int) : (sec b).drop 4 = b := List.drop_left' (chk_len b)
theorem sec_take (b : List Int) : (sec b).take 4 = chk b := List.take_left' (chk_len b)
theorem zero_chk : chk (List.replicate 60 0) ≠ List.replicate 4 0 := by decide +kernel
theorem sec_notblank {b : List Int} : sec b ≠ List.replicate 64 0 := by
  intro h
  have h1 := congrArg (List.drop 4) h
  have h2 := congrArg (List.take 4) h
  rw [sec_drop, List.drop_replicate] at h1
  rw [sec_take, List.take_replicate, h1] at h2
  exact zero_chk h2
theorem rdS_sec (b : List Int) : rdS (sec b) = rdB b := by
  unfold rdS
  rw [if_neg sec_notblank, sec_take, sec_drop, if_pos rfl]
theorem body_len {kind : Int} {pl : List Int} (h : pl.length ≤ 58) : (secBody kind pl).length = 60 := by
  unfold secBody
  rw [List.length_append, List.length_append, List.length_replicate]
  simp only [List.length_cons, List.length_nil]
  omega
theorem rd_right {kind : Int} {pl : List Int} (h : pl.length ≤ 58) (h1 : 1 ≤ kind) (h9 : kind ≤ 9) : rdS (sec (secBody kind pl)) = .ok kind pl := by
  rw [rdS_sec]
  show (if kind < 1 ∨ 9 < kind then Sr.bad else if 58 < (pl.length : Int) then .bad else if (pl ++ List.replicate (58 - pl.length) 0).drop ((pl.length : Int)).toNat = List.replicate ((pl ++ List.replicate (58 - pl.length) 0).drop ((pl.length : Int)).toNat).length 0 then .ok kind ((pl ++ List.replicate (58 - pl.length) 0).take ((pl.length : Int)).toNat) else .bad) = _
  rw [if_neg (by omega), if_neg (by omega), Int.toNat_natCast, List.drop_left, List.take_left, List.length_replicate, if_pos rfl]
theorem pair_eq {a b c d : Int} (h1 : a % 256 = c % 256) (h2 : a / 256 = c / 256) : a = c := by omega
theorem chk_inj {b c : List Int} (h : chk b = chk c) : sums (1, 1) b = sums (1, 1) c := by
  unfold chk at h
  simp only [List.cons.injEq, and_true] at h
  exact Prod.ext (by omega) (by omega)
/-- one changed place changes both sums -/
theorem one_changed {bs : List Int} {k : Nat} {v r : Int} (hl : bs.length ≤ 65000) (hk : bs[k]? = some r) (hr : 0 ≤ r ∧ r < 256) (hv : 0 ≤ v ∧ v < 256) (hne : v ≠ r) :
    (sums (1, 1) (bs.set k v)).1 ≠ (sums (1, 1) bs).1 ∧ (sums (1, 1) (bs.set k v)).2 ≠ (sums (1, 1) bs).2 := by
  have lk : k < bs.length := (List.getElem?_eq_some_iff.mp hk).1
  have c := sums_cg (bs.set k v) 1 1
  have c0 := sums_cg bs 1 1
  rw [sA_set v hk, sB_set v hk, List.length_set] at c
  refine ⟨fun h => ?_, fun h => ?_⟩
  · rw [h] at c
    obtain ⟨m, e⟩ := c0.1.symm.trans c.1
    omega
  · rw [h] at c
    obtain ⟨m, e⟩ := c0.2.symm.trans c.2
    have e' : ((bs.length : Int) - k) * (v - r) = 65521 * (-m) := by omega
    rcases no_prod e' (by omega) (by omega) with z | z <;> omega
theorem take4_set {b : List Int} {i : Nat} {u : Int} (h : 4 ≤ i) : (((sec b).set i u).take 4 = chk b) ∧ ((sec b).set i u).drop 4 = b.set (i - 4) u := by
  constructor
  · rw [List.take_set_of_le h, sec_take]
  · rw [List.drop_set, if_neg (by omega), sec_drop]
theorem set4 {b c : List Int} {i : Nat} {u : Int} (hc : c.length = 4) (h : i < 4) : ((c ++ b).set i u) = c.set i u ++ b := List.set_append_left _ _ (by omega)
theorem set4' {b c : List Int} {i : Nat} {u : Int} (hc : c.length = 4) (h : 4 ≤ i) : ((c ++ b).set i u) = c ++ b.set (i - 4) u := by rw [List.set_append_right _ _ (by omega), hc]
/-- check bytes of which one was changed do not fit a body of which one byte was changed -/
theorem mixed {b : List Int} {i k : Nat} {u v r : Int} (hl : b.length ≤ 65000) (hk : b[k]? = some r) (hr : 0 ≤ r ∧ r < 256) (hv : 0 ≤ v ∧ v < 256) (hi : i < 4) (h : (chk b).set i u = chk (b.set k v)) : (chk b).set i u ++ b.set k v = sec b := by
  by_cases hne : v = r
  · subst hne
    rw [set_self hk] at h ⊢
    rw [h]
    rfl
  · obtain ⟨n1, n2⟩ := one_changed hl hk hr hv hne
    exfalso
    unfold chk at h
    have h4 : i = 0 ∨ i = 1 ∨ i = 2 ∨ i = 3 := by omega
    rcases h4 with rfl | rfl | rfl | rfl <;> simp only [List.set_cons_zero, List.set_cons_succ, List.cons.injEq, and_true] at h
    · exact n2 (by omega)
    · exact n2 (by omega)
    · exact n1 (by omega)
    · exact n1 (by omega)
/-- what is left when all but two places are nothing -/
theorem not_zeros : (List.range 10).all (fun k => (List.range 59).all (fun n => k == 0 ||
    (let c := chk ([(k : Int), (n : Int)] ++ List.replicate 58 0); (c.getD 0 0 != 0) && (n != 0 || c.getD 2 0 != 0 || c.getD 3 0 != 0)))) = true := by decide +kernel
theorem not_blank {kind : Int} {pl : List Int} {i j : Nat} {u v : Int} (h : pl.length ≤ 58) (h1 : 1 ≤ kind) (h9 : kind ≤ 9) : ((sec (secBody kind pl)).set i u).set j v ≠ List.replicate 64 0 := by
  intro hz
  have z : ∀ k, k < 64 → k ≠ i → k ≠ j → (sec (secBody kind pl))[k]? = some 0 := fun k hk hi hj => by
    have e : (((sec (secBody kind pl)).set i u).set j v)[k]? = (List.replicate 64 (0 : Int))[k]? := by rw [hz]
    rw [List.getElem?_set_ne (fun q => hj q.symm), List.getElem?_set_ne (fun q => hi q.symm), List.getElem?_replicate, if_pos hk] at e
    exact e
  have g : ∀ k, (sec (secBody kind pl))[4 + k]? = (secBody kind pl)[k]? := fun k => by
    unfold sec
    rw [List.getElem?_append_right (by rw [chk_len]; omega), chk_len, Nat.add_sub_cancel_left]
  have g0 : (secBody kind pl)[0]? = some kind := rfl
  have g1 : (secBody kind pl)[1]? = some (pl.length : Int) := rfl
  have k4 : i = 4 ∨ j = 4 := by
    by_cases hi : 4 = i
    · exact .inl hi.symm
    · by_cases hj : 4 = j
      · exact .inr hj.symm
      · have := z 4 (by decide) hi hj
        rw [show (4 : Nat) = 4 + 0 from rfl, g 0, g0] at this
        have := Option.some.inj this
        omega
  -- the other place
  obtain ⟨q, zq⟩ : ∃ q : Nat, ∀ k, k < 64 → k ≠ 4 → k ≠ q → (sec (secBody kind pl))[k]? = some 0 := by
    rcases k4 with rfl | rfl
    · exact ⟨j, fun k hk h4 hq => z k hk h4 hq⟩
    · exact ⟨i, fun k hk h4 hq => z k hk hq h4⟩
  have hq : pl.length ≠ 0 → q = 5 := fun hn => by
    by_cases h5 : 5 = q
    · exact h5.symm
    · have := zq 5 (by decide) (by decide) h5
      rw [show (5 : Nat) = 4 + 1 from rfl, g 1, g1] at this
      have := Option.some.inj this
      omega
  have hpl : pl = List.replicate pl.length 0 := by
    refine List.eq_replicate_iff.mpr ⟨rfl, fun b hb => ?_⟩
    obtain ⟨t, ht, hb⟩ := List.getElem_of_mem hb
    have hq5 := hq (by omega)
    have := zq (4 + (2 + t)) (by omega) (by omega) (by omega)
    rw [g (2 + t)] at this
    unfold secBody at this
    rw [List.append_assoc, List.getElem?_append_right (by simp), List.getElem?_append_left (by simp; omega)] at this
    simp only [List.length_cons, List.length_nil] at this
    rw [show 2 + t - (0 + 1 + 1) = t by omega, List.getElem?_eq_getElem ht] at this
    have := Option.some.inj this
    omega
  have hb : secBody kind pl = [kind, (pl.length : Int)] ++ List.replicate 58 0 := by
    unfold secBody
    rw [List.append_assoc]
    congr 1
    rw [hpl, List.length_replicate, List.replicate_append_replicate]
    congr 1
    omega
  obtain ⟨kk, rfl⟩ : ∃ kk : Nat, kind = (kk : Int) := ⟨kind.toNat, by omega⟩
  have all := List.all_eq_true.mp (List.all_eq_true.mp not_zeros kk (List.mem_range.mpr (by omega))) pl.length (List.mem_range.mpr (by omega))
  rw [← hb] at all
  have kne : (kk == 0) = false := beq_eq_false_iff_ne.mpr (by omega)
  rw [kne, Bool.false_or, Bool.and_eq_true] at all
  have gc : ∀ k, k < 4 → (sec (secBody (kk : Int) pl))[k]? = some ((chk (secBody (kk : Int) pl)).getD k 0) := fun k hk => by
    unfold sec
    rw [List.getElem?_append_left (by rw [chk_len]; exact hk), List.getD_eq_getElem?_getD, List.getElem?_eq_getElem (by rw [chk_len]; exact hk)]
    rfl
  have nz : ∀ k, k < 4 → k ≠ q → (chk (secBody (kk : Int) pl)).getD k 0 = 0 := fun k hk hq => by
    have := zq k (by omega) (by omega) hq
    rw [gc k hk] at this
    exact Option.some.inj this
  have hq0 : q = 0 := by
    by_cases h0 : 0 = q
    · exact h0.symm
    · have := nz 0 (by decide) h0
      rw [this] at all
      exact absurd all.1 (by decide)
  have hn : pl.length = 0 := by
    by_cases hn : pl.length = 0
    · exact hn
    · have := hq hn
      omega
  have a2 := nz 2 (by decide) (by omega)
  have a3 := nz 3 (by decide) (by omega)
  have := all.2
  rw [a2, a3, hn] at this
  exact absurd this (by decide)
theorem body_bytes {kind : Int} {pl : List Int} (h : pl.length ≤ 58) (h0 : 0 ≤ kind) (h9 : kind < 256) (hp : Bytes pl) : Bytes (secBody kind pl) := fun b hb => by
  unfold secBody at hb
  rcases List.mem_append.mp hb with hb | hb
  · rcases List.mem_append.mp hb with hb | hb
    · simp only [List.mem_cons, List.not_mem_nil, or_false] at hb
      omega
    · exact hp b hb
  · have := (List.mem_replicate.mp hb).2
    omega
/-- THE PROMISE: one or two changed bytes of a written sector are found -/
theorem rd_changed {kind : Int} {pl : List Int} {i j : Nat} {u v : Int} (h : pl.length ≤ 58) (h1 : 1 ≤ kind) (h9 : kind ≤ 9) (hp : Bytes pl) (hi : i < 64) (hj : j < 64) (hu : 0 ≤ u ∧ u < 256) (hv : 0 ≤ v ∧ v < 256)
    (hne : ((sec (secBody kind pl)).set i u).set j v ≠ sec (secBody kind pl)) : rdS (((sec (secBody kind pl)).set i u).set j v) = .bad := by
  have hb := body_bytes (kind := kind) h (by omega) (by omega) hp
  have hl := body_len (kind := kind) h
  have hnb := not_blank (i := i) (j := j) (u := u) (v := v) h h1 h9
  generalize secBody kind pl = b at hne hb hl hnb
  unfold rdS
  rw [if_neg hnb]
  refine if_neg fun hc => hne ?_
  have hk : ∀ k, 4 ≤ k → k < 64 → ∃ r, b[k - 4]? = some r ∧ 0 ≤ r ∧ r < 256 := fun k h4 hk => by
    have hlt : k - 4 < b.length := by omega
    exact ⟨b[k - 4], List.getElem?_eq_getElem hlt, hb _ (List.getElem_mem hlt)⟩
  have lc : (chk b).length = 4 := rfl
  by_cases h4i : i < 4
  · by_cases h4j : j < 4
    · have e : ((sec b).set i u).set j v = ((chk b).set i u).set j v ++ b := by
        unfold sec
        rw [set4 lc h4i, set4 (by rw [List.length_set]; rfl) h4j]
      rw [e] at hc ⊢
      have l4 : (((chk b).set i u).set j v).length = 4 := by rw [List.length_set, List.length_set]; rfl
      rw [List.take_left' l4, List.drop_left' l4] at hc
      rw [hc]
      rfl
    · obtain ⟨r, hr, hr2⟩ := hk j (by omega) hj
      have e : ((sec b).set i u).set j v = (chk b).set i u ++ b.set (j - 4) v := by
        unfold sec
        rw [set4 lc h4i, set4' (by rw [List.length_set]; rfl) (by omega)]
      rw [e] at hc ⊢
      have l4 : ((chk b).set i u).length = 4 := by rw [List.length_set]; rfl
      rw [List.take_left' l4, List.drop_left' l4] at hc
      exact mixed (by omega) hr hr2 hv h4i hc
  · by_cases h4j : j < 4
    · obtain ⟨r, hr, hr2⟩ := hk i (by omega) hi
      have e : ((sec b).set i u).set j v = (chk b).set j v ++ b.set (i - 4) u := by
        unfold sec
        rw [set4' lc (by omega), set4 lc h4j]
      rw [e] at hc ⊢
      have l4 : ((chk b).set j v).length = 4 := by rw [List.length_set]; rfl
      rw [List.take_left' l4, List.drop_left' l4] at hc
      exact mixed (by omega) hr hr2 hu h4j hc
    · obtain ⟨r, hr, hr2⟩ := hk i (by omega) hi
      have e : ((sec b).set i u).set j v = chk b ++ (b.set (i - 4) u).set (j - 4) v := by
        unfold sec
        rw [set4' lc (by omega), set4' lc (by omega)]
      rw [e] at hc ⊢
      rw [List.take_left' lc, List.drop_left' lc] at hc
      have hlt : j - 4 < (b.set (i - 4) u).length := by rw [List.length_set]; omega
      have := two_changed 1 1 (by omega) hr (List.getElem?_eq_getElem hlt) hu hv hb (chk_inj hc).symm
      rw [this]
      rfl
theorem rdB_cons (k l : Int) (rest : List Int) : rdB (k :: l :: rest) = if k < 1 ∨ 9 < k then .bad else if 58 < l then .bad else if rest.drop l.toNat = List.replicate (rest.drop l.toNat).length 0 then .ok k (rest.take l.toNat) else .bad := rfl
theorem rdB_kind {k l : Int} {rest : List Int} (h : k < 1 ∨ 9 < k) : rdB (k :: l :: rest) = .bad := if_pos h
theorem rdB_len {k l : Int} {rest : List Int} (h : 58 < l) : rdB (k :: l :: rest) = .bad := by
  rw [rdB_cons]
  by_cases c : k < 1 ∨ 9 < k
  · exact if_pos c
  · rw [if_neg c, if_pos h]
theorem rdB_fill {k l : Int} {rest : List Int} {t : Nat} {x : Int} (ht : l.toNat ≤ t) (hx : rest[t]? = some x) (h : x ≠ 0) : rdB (k :: l :: rest) = .bad := by
  rw [rdB_cons]
  by_cases c : k < 1 ∨ 9 < k
  · exact if_pos c
  · rw [if_neg c]
    by_cases c2 : 58 < l
    · exact if_pos c2
    · rw [if_neg c2, if_neg]
      intro e
      have q := congrArg (fun m => m[t - l.toNat]?) e
      simp only [List.getElem?_drop] at q
      rw [show l.toNat + (t - l.toNat) = t by omega, hx, List.getElem?_replicate] at q
      split at q
      · exact h (Option.some.inj q)
      · cases q
/-! making and reading sectors -/
def sp_check (K : PySem.W.Frag) : Sp := fun vs H Q _ => ∃ (t : Addr) (x y : Int), vs = [.ref t] ∧ SqT K H t [.int x, .int y] ∧ ∀ p H', H p = none → Same H H' → H' p = some (.lst ([x % 256, x / 256, y % 256, y / 256].map V.int)) → Q (.ref p) H'
def sp_checksumT (K : PySem.W.Frag) : Sp := fun vs H Q _ => ∃ (a t : Addr) (bs : List Int) (x y : Int), vs = [.ref a, .ref t] ∧ SqT K H a (bs.map V.int) ∧ SqT K H t [.int x, .int y] ∧ ∀ p H', H p = none → Same H H' → H' p = some (.tup [.int (sums (x, y) bs).1, .int (sums (x, y) bs).2]) → Q (.ref p) H'
def sp_make (K : PySem.W.Frag) : Sp := fun vs H Q _ => ∃ (a : Addr) (kind : Int) (pl : List Int), vs = [.int kind, .ref a] ∧ SqL K H a (pl.map V.int) ∧ pl.length ≤ 58 ∧ ∀ p H', H p = none → Same H H' → H' p = some (.tup ((sec (secBody kind pl)).map V.int)) → Q (.ref p) H'
def sp_read (K : PySem.W.Frag) (cD : Addr) : Sp := fun vs H Q E => ∃ (a : Addr) (bs : List Int), vs = [.ref a] ∧ SqT K H a (bs.map V.int) ∧ bs.length = 64 ∧ Bytes bs ∧ (rdS bs = .blank → Q .non H) ∧ (rdS bs = .bad → ∀ H', Same H H' → E (.ref cD) none H') ∧
  ∀ kind pl, rdS bs = .ok kind pl → ∀ p q H', Same H H' → H' p = some (.tup [.int kind, .ref q]) → H' q = some (.lst (pl.map V.int)) → Q (.ref p) H'
section
variable {P : Program} {w : World} {K : PySem.W.Frag} {mg : Str → Option Value} {base : Heap}
theorem ok_check_bytes (T : TX K mg) : FnOk P w K mg base CX0 1 T.a_check_bytes T.d_check_bytes ["pair"] (sp_check K) := by
  refine T.F_check_bytes.ok sc_check_bytes (fun vs H Q E h => ?_) (fun cdv A outer s H vs Q E hr h => ?_)
  · obtain ⟨t, x, y, rfl, _⟩ := h
    rfl
  · obtain ⟨t, x, y, rfl, hT, q⟩ := h
    refine ⟨_, (pss_cons (ps_asg (pv 0) (pg_tup (by rfl) (pgs_cons (pg_name (i := 1) sc_check_bytes.nd rfl (Or.inl rfl)) (pgs_cons (pg_name (i := 2) sc_check_bytes.nd rfl (Or.inl rfl)) pgs_nil))))
      (pss_one (ps_ret (pe_lst (pa_cons (pe_op op_mod (pv 1) pe_int) (pa_cons (pe_op op_fdiv (pv 1) pe_int) (pa_cons (pe_op op_mod (pv 2) pe_int) (pa_cons (pe_op op_fdiv (pv 2) pe_int) pa_nil)))))))), ?_⟩
    refine ⟨_, rfl, t, _, rfl, hT, rfl, .int x, [.int y], rfl, .int y, [], rfl, rfl, ?_⟩
    refine ⟨_, rfl, _, _, rfl, rfl, (by show (0 : Int) < _; decide), _, rfl, _, _, rfl, rfl, ⟨by decide, by decide⟩, _, rfl, _, _, rfl, rfl, (by show (0 : Int) < _; decide), _, rfl, _, _, rfl, rfl, ⟨by decide, by decide⟩, (by show 4 ≤ sizeLine; decide), fun p hp => q p _ hp (same_upd hp) upd_same⟩
/-- the sums of a tuple -/
theorem ok_checksumT (T : TX K mg) : FnOk P w K mg base CX0 1 T.a_checksum T.d_checksum ["row", "start"] (sp_checksumT K) := by
  refine okD T.FD_checksum sc_checksum (fun vs H Q E h => ?_) (fun cdv A outer s H vs Q E hr h => ?_)
  · obtain ⟨a, t, bs, x, y, rfl, _⟩ := h
    rfl
  · obtain ⟨a, t, bs, x, y, rfl, hS, hT, q⟩ := h
    refine ⟨_, (pss_cons (ps_asg (pv 1) (pg_tup (by rfl) (pgs_cons (pg_name (i := 2) sc_checksum.nd rfl (Or.inl rfl)) (pgs_cons (pg_name (i := 3) sc_checksum.nd rfl (Or.inl rfl)) pgs_nil))))
      (pss_cons (ps_for PassesOwn.never rfl (pi_tup (pv 0)) (pg_name (i := 4) sc_checksum.nd rfl (Or.inl rfl))
        (pss_cons (ps_set (i := 2) sc_checksum.nd rfl (Or.inl rfl) (pe_op op_mod (pe_op op_add (pe_op op_add (pv 2) (pv 4)) pe_int) (pe_glob (v := .int 65521) (by rfl) T.c_MODULUS ⟨_, rfl⟩)))
        (pss_one (ps_set (i := 3) sc_checksum.nd rfl (Or.inl rfl) (pe_op op_mod (pe_op op_add (pv 3) (pv 2)) (pe_glob (v := .int 65521) (by rfl) T.c_MODULUS ⟨_, rfl⟩))))))
      (pss_one (ps_ret (pe_tup (pa_cons (pv 2) (pa_cons (pv 3) pa_nil))))))), ?_⟩
    refine ⟨_, rfl, t, _, rfl, hT, rfl, .int x, [.int y], rfl, .int y, [], rfl, rfl, ?_⟩
    refine ⟨_, rfl, a, rfl, ⟨_, hS⟩, for_tup (K := K) (a := a) (xs := bs.map V.int) (fun i σ H2 => H = H2 ∧ ∃ x4, σ = [some (.ref a), some (.ref t), some (.int (sums (x, y) (bs.take i)).1), some (.int (sums (x, y) (bs.take i)).2), x4])
      ⟨rfl, none, rfl⟩ (fun i σ H2 _ ⟨e, _⟩ => by rw [← e]; exact hS) ?_ ?_⟩
    · rintro i v σ _ hx ⟨rfl, x4, rfl⟩
      obtain ⟨b, hb, rfl⟩ := map_at hx
      have hm := sums_more (s := (x, y)) hb
      refine ⟨_, rfl, _, rfl, _, _, rfl, rfl, _, _, rfl, rfl, _, _, rfl, rfl, (by show (0 : Int) < _; decide), ?_⟩
      refine ⟨_, rfl, _, rfl, _, _, rfl, rfl, _, _, rfl, rfl, (by show (0 : Int) < _; decide), ?_⟩
      refine ⟨rfl, some (.int b), ?_⟩
      rw [hm]
      rfl
    · rintro σ _ ⟨rfl, x4, rfl⟩
      rw [List.length_map, List.take_length]
      exact ⟨_, rfl, _, rfl, (by show 2 ≤ sizeLine; decide), fun p hp => q p _ hp (same_upd hp) upd_same⟩
theorem rep0 (n : Nat) : (List.replicate n [V.int 0]).flatten = (List.replicate n (0 : Int)).map V.int := by
  rw [List.map_replicate, List.flatten_replicate_singleton]
theorem secBody_map (kind : Int) (pl : List Int) : [V.int kind, V.int ((pl.map V.int).length : Int)] ++ pl.map V.int ++ (List.replicate ((58 : Int) - ((pl.map V.int).length : Int)).toNat [V.int 0]).flatten = (secBody kind pl).map V.int := by
  have e : ((58 : Int) - (pl.length : Int)).toNat = 58 - pl.length := by omega
  rw [List.length_map, rep0, e]
  unfold secBody
  rw [List.map_append, List.map_append]
  rfl
theorem ok_make_sector (T : TX K mg) : FnOk P w K mg base CX0 2 T.a_make_sector T.d_make_sector ["kind", "payload"] (sp_make K) := by
  refine T.F_make_sector.ok sc_make_sector (fun vs H Q E h => ?_) (fun cdv A outer s H vs Q E hr h => ?_)
  · obtain ⟨a, kind, pl, rfl, _⟩ := h
    rfl
  · obtain ⟨a, kind, pl, rfl, hS, hl, q⟩ := h
    refine ⟨_, (pss_cons (ps_set (i := 2) sc_make_sector.nd rfl (Or.inl rfl) (pe_op op_cat (pe_op op_cat (pe_lst (pa_cons (pv 0) (pa_cons (pe_callB call_len_seq (by rfl) T.n_len PySem.boot_len (pa_cons (pv 1) pa_nil)) pa_nil))) (pe_callTy call_list_of (by rfl) T.n_list (by decide +kernel) (pa_cons (pv 1) pa_nil))) (pe_op op_rep (pe_lst (pa_cons pe_int pa_nil)) (pe_op op_sub (pe_glob (v := .int 58) (by rfl) T.c_PAYLOAD ⟨_, rfl⟩) (pe_callB call_len_seq (by rfl) T.n_len PySem.boot_len (pa_cons (pv 1) pa_nil))))))
      (pss_one (ps_ret (pe_callTy call_tuple_of (by rfl) T.n_tuple (by decide +kernel) (pa_cons (pe_op op_cat (pe_call (ok_check_bytes T) (hr.mono (by decide)) (by rfl) T.g_check_bytes T.F_check_bytes.kp T.b_check_bytes .nil pass0 (pa_cons (pe_call (ok_checksum T) (hr.mono (by decide)) (by rfl) T.g_checksum T.FD_checksum.kp T.bD_checksum_1.choose_spec.2 T.bD_checksum_1.choose_spec.1 pass0 (pa_cons (pv 2) pa_nil)) pa_nil)) (pv 2)) pa_nil))))), ?_⟩
    have hml : (pl.map V.int).length = pl.length := List.length_map _
    walk_at "go"
    refine EL.use (xs := _) (el_cat (el_cat (el_lst (ea_cons (ei_var rfl) (ea_cons (ei_lenL rfl hS) ea_nil)) (by show 2 ≤ 90000; decide)) (el_listL rfl hS) ?_) (el_rep (el_lst (ea_cons ei_c ea_nil) (by decide)) (ei_i0 ei_c (ei_lenL rfl hS)) ?_ ?_ ?_) ?_) (fun p H1 s1 e1 => ?_)
    · simp only [List.length_cons, List.length_nil, hml]; omega
    · rw [hml]; omega
    · rw [hml]; omega
    · rw [hml]; simp only [List.length_cons, List.length_nil]; omega
    · rw [List.length_append, hml, List.length_flatten, List.map_replicate, List.sum_replicate_nat]
      simp only [List.length_cons, List.length_nil]
      omega
    rw [secBody_map] at e1
    have hb60 := body_len (kind := kind) hl
    -- tuple(check_bytes(checksum(body)) + body)
    refine ⟨_, rfl, p, T.da_checksum_0, secBody kind pl, 1, 1, rfl, sql e1, T.dq_checksum_0 _, fun t1 H2 _ s2 e2 => ⟨t1, _, _, rfl, sqt e2, fun c1 H3 _ s3 e3 => ⟨_, rfl, c1, p, _, _, rfl, rfl, e3, s3 _ _ (s2 _ _ e1), sz (by rw [List.length_map, List.length_map, hb60]; show 4 + 60 ≤ 100000; decide), fun p2 hp2 => ⟨p2, _, rfl, .inl ⟨sql upd_same, fun p3 hp3 => ?_⟩⟩⟩⟩⟩
    have s03 := s1.trans (s2.trans s3)
    refine q p3 _ ((s03.trans (same_upd hp2)).free hp3) ((s03.trans (same_upd hp2)).trans (same_upd hp3)) ?_
    rw [upd_same]
    unfold sec chk
    rw [List.map_append]
theorem take2 (k l : Int) (rest : List Int) : cutV ((k :: l :: rest).map V.int) none (some 2) = [V.int k, V.int l] := (cut0n _ 2).trans rfl
theorem cutn0 (xs : List V) (i : Nat) : cutV xs (some (i : Int)) none = xs.drop i := by
  unfold cutV
  rw [sIx_le, HT.sIx_none]
  by_cases hi : i ≤ xs.length
  · rw [Nat.min_eq_left hi, List.take_of_length_le (by rw [List.length_drop]; omega)]
  · have e : min i xs.length = xs.length := by omega
    rw [e, List.drop_of_length_le (Nat.le_refl _), List.drop_of_length_le (show xs.length ≤ i by omega), List.take_nil]
theorem ok_read_sector (T : TX K mg) : FnOk P w K mg base (L2.CX P w) 2 T.a_read_sector T.d_read_sector ["sector"] (sp_read K T.a_Damaged) := by
  refine T.F_read_sector.okX sc_read_sector (fun vs H Q E h => ?_) (fun cdv A outer s H vs Q E hr h => ?_)
  · obtain ⟨a, bs, rfl, _⟩ := h
    rfl
  · obtain ⟨a, bs, rfl, hS, hl, hb, qN, qB, qO⟩ := h
    refine ⟨_, (pss_cons (ps_if (pt_cmpR (op_eqD hr.units) (pv 0) (pe_glob (v := .ref T.ca_BLANK) (by rfl) T.c_BLANK rfl) (nomark _)) (pss_one (ps_ret pe_non)) pss_nil)
      (pss_cons (ps_set (i := 1) sc_read_sector.nd rfl (Or.inl rfl) (pe_slice sl_tup (pv 0) (po_some (pe_glob (v := .int 4) (by rfl) T.c_CHECK_BYTES ⟨_, rfl⟩)) po_none))
      (pss_cons (ps_if (pt_cmpR (op_neD hr.units) (pe_callTy call_list_of (by rfl) T.n_list (by decide +kernel) (pa_cons (pe_slice sl_tup (pv 0) po_none (po_some (pe_glob (v := .int 4) (by rfl) T.c_CHECK_BYTES ⟨_, rfl⟩))) pa_nil)) (pe_call (ok_check_bytes T) (hr.mono (by decide)) (by rfl) T.g_check_bytes T.F_check_bytes.kp T.b_check_bytes .nil pass0 (pa_cons (pe_call (ok_checksumT T) (hr.mono (by decide)) (by rfl) T.g_checksum T.FD_checksum.kp T.bD_checksum_1.choose_spec.2 T.bD_checksum_1.choose_spec.1 pass0 (pa_cons (pv 1) pa_nil)) pa_nil)) (nomark _)) (pss_one (ps_raise rfl (takes_of rfl rfl rfl rfl) (pmk_own PySem.F.excBase_ValueError T.x_Damaged T.g_Damaged T.k_Damaged (raises_own T.s_Damaged T.t_Damaged) rfl))) pss_nil)
      (pss_cons (ps_asg (pe_slice sl_tup (pv 1) po_none (po_some pe_int)) (pg_tup (by rfl) (pgs_cons (pg_name (i := 2) sc_read_sector.nd rfl (Or.inl rfl)) (pgs_cons (pg_name (i := 3) sc_read_sector.nd rfl (Or.inl rfl)) pgs_nil))))
      (pss_cons (ps_if (PW.pt (pw_or (pt_cmpR op_lt (pv 2) pe_int (nomark _)) (pw_or1 (pt_cmpR op_gt (pv 2) (pe_glob (v := .int 9) (by rfl) T.c_MOST_KIND ⟨_, rfl⟩) (nomark _))))) (pss_one (ps_raise rfl (takes_of rfl rfl rfl rfl) (pmk_own PySem.F.excBase_ValueError T.x_Damaged T.g_Damaged T.k_Damaged (raises_own T.s_Damaged T.t_Damaged) rfl))) pss_nil)
      (pss_cons (ps_if (pt_cmpR op_gt (pv 3) (pe_glob (v := .int 58) (by rfl) T.c_PAYLOAD ⟨_, rfl⟩) (nomark _)) (pss_one (ps_raise rfl (takes_of rfl rfl rfl rfl) (pmk_own PySem.F.excBase_ValueError T.x_Damaged T.g_Damaged T.k_Damaged (raises_own T.s_Damaged T.t_Damaged) rfl))) pss_nil)
      (pss_cons (ps_set (i := 4) sc_read_sector.nd rfl (Or.inl rfl) (pe_slice sl_tup (pv 1) (po_some (pe_op op_add pe_int (pv 3))) po_none))
      (pss_cons (ps_if (pt_cmpR (op_neD hr.units) (pv 4) (pe_slice sl_tup (pe_glob (v := .ref T.ca_BLANK) (by rfl) T.c_BLANK rfl) po_none (po_some (pe_callB call_len_seq (by rfl) T.n_len PySem.boot_len (pa_cons (pv 4) pa_nil)))) (nomark _)) (pss_one (ps_raise rfl (takes_of rfl rfl rfl rfl) (pmk_own PySem.F.excBase_ValueError T.x_Damaged T.g_Damaged T.k_Damaged (raises_own T.s_Damaged T.t_Damaged) rfl))) pss_nil)
      (pss_one (ps_ret (pe_tup (pa_cons (pv 2) (pa_cons (pe_callTy call_list_of (by rfl) T.n_list (by decide +kernel) (pa_cons (pe_slice sl_tup (pv 1) (po_some pe_int) (po_some (pe_op op_add pe_int (pv 3)))) pa_nil)) pa_nil))))))))))))), ?_⟩
    have hml : (bs.map V.int).length = 64 := by rw [List.length_map, hl]
    have hB : ∀ H : Hp, SqT K H T.ca_BLANK ((List.replicate 64 (0 : Int)).map V.int) := fun H => T.q_BLANK H
    -- sector == BLANK
    refine ⟨_, rfl, _, _, .tup hS (dpa_ints bs), .tup (hB H) (dpa_ints _), (flat_tints _).sh (by decide), (flat_tints _).sh (by decide), _, rfl, ifb2 (fun hc => ?_) (fun hc => ?_)⟩
    · rw [eqv_tints] at hc
      exact qN (if_pos (of_decide_eq_true hc))
    rw [eqv_tints] at hc
    have hnb : bs ≠ List.replicate 64 0 := of_decide_eq_false hc
    clear hc
    -- body = sector[4:]
    refine ⟨_, rfl, 4, rfl, a, _, rfl, hS, (by rw [hml]; show ¬ (HT.sIx 64 0 (some ((4 : Nat) : Int)) = 0 ∧ _); rw [sIx_le]; omega), fun p hp => ?_⟩
    have ecut : cutV (bs.map V.int) (some 4) none = (bs.drop 4).map V.int := by rw [List.map_drop]; exact cutn0 _ 4
    rw [ecut]
    have s1 := same_upd (o := .tup ((bs.drop 4).map V.int)) hp
    have e1 : (upd H p (.tup ((bs.drop 4).map V.int))) p = some (.tup ((bs.drop 4).map V.int)) := upd_same
    generalize upd H p (.tup ((bs.drop 4).map V.int)) = H1 at s1 e1
    have hS1 := sqt_same s1 hS
    -- the check bytes
    refine ⟨_, rfl, 4, rfl, a, _, rfl, hS1, (by rw [hml]; show ¬ (_ ∧ HT.sIx 64 64 (some ((4 : Nat) : Int)) = 64); rw [sIx_le]; omega), fun p2 hp2 => ?_⟩
    have ecut2 : cutV (bs.map V.int) none (some 4) = (bs.take 4).map V.int := by rw [List.map_take]; exact cut0n _ 4
    rw [ecut2]
    have s2 := s1.trans (same_upd (o := .tup ((bs.take 4).map V.int)) hp2)
    have e12 := same_upd (o := .tup ((bs.take 4).map V.int)) hp2 _ _ e1
    have e2 : (upd H1 p2 (.tup ((bs.take 4).map V.int))) p2 = some (.tup ((bs.take 4).map V.int)) := upd_same
    generalize upd H1 p2 (.tup ((bs.take 4).map V.int)) = H2 at s2 e12 e2
    refine ⟨p2, _, rfl, .inr (sqt e2), fun p3 hp3 => ?_⟩
    have s3 := s2.trans (same_upd (o := .lst ((bs.take 4).map V.int)) hp3)
    have e13 := same_upd (o := .lst ((bs.take 4).map V.int)) hp3 _ _ e12
    have e3 : (upd H2 p3 (.lst ((bs.take 4).map V.int))) p3 = some (.lst ((bs.take 4).map V.int)) := upd_same
    generalize upd H2 p3 (.lst ((bs.take 4).map V.int)) = H3 at s3 e13 e3
    refine ⟨_, rfl, p, T.da_checksum_0, bs.drop 4, 1, 1, rfl, sqt e13, T.dq_checksum_0 _, fun t1 H4 _ s4 e4 => ⟨t1, _, _, rfl, sqt e4, fun c1 H5 _ s5 e5 => ?_⟩⟩
    have s45 := s4.trans s5
    refine ⟨_, _, dp_ints (s45.seq (sql e3)), dp_ints (ns := chk (bs.drop 4)) (sql e5), (flat_ints _).sh (by decide), (flat_ints _).sh (by decide), _, rfl, ?_⟩
    rw [eqv_ints]
    have s05 := s3.trans s45
    have ebody := s45 _ _ e13
    refine ifn (fun hc => ?_) (fun hc => ?_)
    · refine qB ?_ _ s05
      unfold rdS
      rw [if_neg hnb, if_neg hc]
    have hrd : rdS bs = rdB (bs.drop 4) := by
      unfold rdS
      rw [if_neg hnb, if_pos hc]
    clear hc hnb
    -- kind, length
    obtain ⟨k, l, rest, hbd⟩ : ∃ k l rest, bs.drop 4 = k :: l :: rest := by
      cases e : bs.drop 4 with
      | nil => have := congrArg List.length e; rw [List.length_drop, hl] at this; cases this
      | cons k r =>
        cases r with
        | nil => have := congrArg List.length e; rw [List.length_drop, hl] at this; cases this
        | cons l rest => exact ⟨k, l, rest, rfl⟩
    have hrl : rest.length = 58 := by have := congrArg List.length hbd; rw [List.length_drop, hl] at this; simp only [List.length_cons] at this; omega
    have hl0 : 0 ≤ l := (hb l (List.mem_of_mem_drop (by rw [hbd]; exact List.mem_cons_of_mem _ List.mem_cons_self))).1
    rw [hbd] at ebody hrd
    have hbl : ((k :: l :: rest).map V.int).length = 60 := by rw [List.length_map, List.length_cons, List.length_cons, hrl]
    refine ⟨_, rfl, 2, rfl, p, _, rfl, sqt ebody, (by rw [hbl]; show ¬ (_ ∧ HT.sIx 60 60 (some ((2 : Nat) : Int)) = 60); rw [sIx_le]; omega), fun p4 hp4 => ?_⟩
    rw [take2]
    have s6 := s05.trans (same_upd (o := .tup [.int k, .int l]) hp4)
    have e6 := same_upd (o := .tup [.int k, .int l]) hp4 _ _ ebody
    have e64 : (upd H5 p4 (.tup [.int k, .int l])) p4 = some (.tup [.int k, .int l]) := upd_same
    generalize upd H5 p4 (.tup [.int k, .int l]) = H6 at s6 e6 e64
    refine ⟨p4, _, rfl, sqt e64, rfl, .int k, [.int l], rfl, .int l, [], rfl, rfl, ?_⟩
    -- the kind
    refine ⟨_, rfl, _, _, rfl, rfl, _, rfl, ifd (fun hc => ?_) (fun hc => ?_)⟩
    · exact qB (hrd.trans (rdB_kind (.inl hc))) _ s6
    refine ⟨_, rfl, _, _, rfl, rfl, _, rfl, ifd (fun hc2 => ?_) (fun hc2 => ?_)⟩
    · exact qB (hrd.trans (rdB_kind (.inr hc2))) _ s6
    -- the length
    refine ⟨_, rfl, _, _, rfl, rfl, _, rfl, ifd (fun hc3 => ?_) (fun hc3 => ?_)⟩
    · exact qB (hrd.trans (rdB_len hc3)) _ s6
    obtain ⟨n, rfl⟩ : ∃ n : Nat, l = (n : Int) := ⟨l.toNat, by omega⟩
    have hn : n ≤ 58 := by omega
    -- the filling
    refine ⟨_, rfl, _, rfl, _, _, rfl, rfl, _, rfl, p, _, rfl, sqt e6, (by rw [hbl]; show ¬ (HT.sIx 60 0 (some ((2 : Int) + (n : Int))) = 0 ∧ _); rw [show (2 : Int) + (n : Int) = ((2 + n : Nat) : Int) by omega, sIx_le]; omega), fun p5 hp5 => ?_⟩
    have ecut5 : cutV ((k :: (n : Int) :: rest).map V.int) (some ((2 : Int) + (n : Int))) none = (rest.drop n).map V.int := by
      rw [show (2 : Int) + (n : Int) = ((2 + n : Nat) : Int) by omega, cutn0, ← List.map_drop, Nat.add_comm 2 n]
      rfl
    walk_at "go"
    rw [ecut5]
    have s7 := s6.trans (same_upd (o := .tup ((rest.drop n).map V.int)) hp5)
    have e7 := same_upd (o := .tup ((rest.drop n).map V.int)) hp5 _ _ e6
    have e75 : (upd H6 p5 (.tup ((rest.drop n).map V.int))) p5 = some (.tup ((rest.drop n).map V.int)) := upd_same
    generalize upd H6 p5 (.tup ((rest.drop n).map V.int)) = H7 at s7 e7 e75
    have hfl : ((rest.drop n).map V.int).length = 58 - n := by rw [List.length_map, List.length_drop, hrl]
    refine ⟨_, rfl, _, rfl, p5, _, rfl, .inr (sqt e75), _, rfl, T.ca_BLANK, _, rfl, hB H7, (by rw [List.length_map, List.length_replicate, hfl]; show ¬ (_ ∧ HT.sIx 64 64 (some (((58 - n : Nat) : Int))) = 64); rw [sIx_le]; omega), fun p6 hp6 => ?_⟩
    have ecut6 : cutV ((List.replicate 64 (0 : Int)).map V.int) none (some (((rest.drop n).map V.int).length : Int)) = (List.replicate (58 - n) (0 : Int)).map V.int := by
      rw [hfl, cut0n, ← List.map_take, List.take_replicate]
      congr 2
      omega
    rw [ecut6]
    have s8 := s7.trans (same_upd (o := .tup ((List.replicate (58 - n) (0 : Int)).map V.int)) hp6)
    have s78 := same_upd (o := .tup ((List.replicate (58 - n) (0 : Int)).map V.int)) hp6
    refine ⟨_, _, .tup (sqt (s78 _ _ e75)) (dpa_ints _), .tup (sqt upd_same) (dpa_ints _), (flat_tints _).sh (by decide), (flat_tints _).sh (by decide), _, rfl, ?_⟩
    rw [eqv_tints]
    refine ifn (fun hc4 => ?_) (fun hc4 => ?_)
    · refine qB (hrd.trans ?_) _ s8
      rw [rdB_cons, if_neg (by omega), if_neg (by omega), Int.toNat_natCast, List.length_drop, hrl, if_neg hc4]
    have hok : rdS bs = .ok k (rest.take n) := by
      rw [hrd, rdB_cons, if_neg (by omega), if_neg (by omega), Int.toNat_natCast, List.length_drop, hrl, if_pos hc4]
    have e8 := s78 _ _ e7
    generalize upd H7 p6 (.tup ((List.replicate (58 - n) (0 : Int)).map V.int)) = H8 at s8 e8
    refine ⟨_, rfl, _, rfl, 2, rfl, _, rfl, _, _, rfl, rfl, _, rfl, p, _, rfl, sqt e8, (by rw [hbl]; show ¬ (HT.sIx 60 0 (some ((2 : Nat) : Int)) = 0 ∧ _); rw [sIx_le]; omega), fun p7 hp7 => ?_⟩
    have ecut7 : cutV ((k :: (n : Int) :: rest).map V.int) (some 2) (some ((2 : Int) + (n : Int))) = (rest.take n).map V.int := by
      rw [cut_ints (k :: (n : Int) :: rest) (i := 2) (j := 2 + n) (a := 2) (b := 2 + (n : Int)) rfl (by omega), Nat.add_sub_cancel_left]
      rfl
    have s9 := s8.trans (same_upd (o := .tup ((rest.take n).map V.int)) hp7)
    refine ⟨p7, (rest.take n).map V.int, rfl, .inr (sqt (by rw [← ecut7]; exact upd_same)), fun p8 hp8 => ⟨(by show 2 ≤ sizeLine; decide), fun p9 hp9 => ?_⟩⟩
    rw [ecut7] at hp8 hp9 ⊢
    have n89 : p8 ≠ p9 := fun z => by rw [z, upd_same] at hp9; cases hp9
    exact qO _ _ hok p9 p8 _ ((s9.trans (same_upd hp8)).trans (same_upd hp9)) upd_same (by rw [upd_ne n89, upd_same])
end
/-! sectors by what they hold -/
inductive Sc where
  | blank
  | head (g s b : Nat)
  | part (g b r p c : Nat) (bs : List Int)
def hdP (g s b : Nat) : List Int := pkL (.tuple [.int (g : Int), .int (s : Int), .int (b : Int)])
def ptP (g b r p c : Nat) (bs : List Int) : List Int := [g, b, r, p, c].flatMap enc ++ bs
theorem ptP_eq (g b r p c : Nat) (bs : List Int) : ptP g b r p c bs = enc g ++ (enc b ++ (enc r ++ (enc p ++ (enc c ++ bs)))) := by
  unfold ptP
  simp [List.flatMap]
theorem flat_cut (ns : List Nat) (bs : List Int) {t : Nat} (ht : t < ns.length) : (ns.flatMap enc ++ bs).drop ((ns.take t).flatMap enc).length = enc ns[t] ++ ((ns.drop (t + 1)).flatMap enc ++ bs) := by
  have h : ns = ns.take t ++ ns[t] :: ns.drop (t + 1) := by rw [← List.drop_eq_getElem_cons ht, List.take_append_drop]
  have e : ns.flatMap enc = (ns.take t).flatMap enc ++ (enc ns[t] ++ (ns.drop (t + 1)).flatMap enc) := by
    conv => lhs; rw [h]
    rw [List.flatMap_append, List.flatMap_cons]
  rw [e, List.append_assoc, List.drop_left, List.append_assoc]
theorem flat_more (ns : List Nat) {t : Nat} (ht : t < ns.length) : ((ns.take (t + 1)).flatMap enc).length = ((ns.take t).flatMap enc).length + (enc ns[t]).length := by
  rw [List.take_succ_eq_append_getElem ht, List.flatMap_append, List.length_append]
  simp [List.flatMap]
theorem flat_le (ns : List Nat) (bs : List Int) (t : Nat) : ((ns.take t).flatMap enc).length ≤ (ns.flatMap enc ++ bs).length := by
  have : ns.flatMap enc = (ns.take t).flatMap enc ++ (ns.drop t).flatMap enc := by rw [← List.flatMap_append, List.take_append_drop]
  rw [this]
  simp only [List.length_append]
  omega
def scB : Sc → List Int
  | .blank => List.replicate 64 0
  | .head g s b => sec (secBody 1 (hdP g s b))
  | .part g b r p c bs => sec (secBody 2 (ptP g b r p c bs))
def ScOk : Sc → Prop
  | .blank => True
  | .head g s b => g < 2097152 ∧ s < 2097152 ∧ b < 2097152
  | .part g b r p c bs => g < 2097152 ∧ b < 2097152 ∧ r < 2097152 ∧ p ≤ 1000 ∧ c ≤ 1000 ∧ bs.length ≤ 40 ∧ Bytes bs
theorem enc3 {n : Nat} (h : n < 2097152) : (enc n).length ≤ 3 := enc_len 2 n (by omega)
theorem Bytes.app {a b : List Int} (ha : Bytes a) (hb : Bytes b) : Bytes (a ++ b) := fun x hx => by
  rcases List.mem_append.mp hx with h | h
  · exact ha x h
  · exact hb x h
theorem hdP_eq (g s b : Nat) : hdP g s b = 6 :: 3 :: (3 :: enc g ++ (3 :: enc s ++ (3 :: enc b))) := by
  unfold hdP
  have e : enc 3 = [3] := enc_small (by decide)
  have n0 : ∀ n : Nat, ¬ ((n : Int) < 0) := fun n => by omega
  simp [pkL, pkA, e, n0]
theorem hdP_len {g s b : Nat} (h : ScOk (.head g s b)) : (hdP g s b).length ≤ 14 := by
  have h1 := enc3 h.1
  have h2 := enc3 h.2.1
  have h3 := enc3 h.2.2
  rw [hdP_eq]
  simp only [List.length_cons, List.length_append]
  omega
theorem ptP_len {g b r p c : Nat} {bs : List Int} (h : ScOk (.part g b r p c bs)) : (ptP g b r p c bs).length ≤ 55 := by
  obtain ⟨h1, h2, h3, h4, h5, h6, _⟩ := h
  have h1 := enc3 h1
  have h2 := enc3 h2
  have h3 := enc3 h3
  have h4 := enc3 (show p < 2097152 by omega)
  have h5 := enc3 (show c < 2097152 by omega)
  rw [ptP_eq]
  simp only [List.length_append]
  omega
theorem hd_ok (g s b : Nat) (h : ScOk (.head g s b)) : okV 20 (.tuple [.int (g : Int), .int (s : Int), .int (b : Int)]) = true := by
  have hb : ∀ n : Nat, n < 2097152 → bitsOk (n : Int) = true := fun n hn => by
    unfold bitsOk
    refine decide_eq_true ?_
    unfold Builtin.Int.intBits
    by_cases h0 : (n : Int) = 0
    · rw [h0]; decide
    · have hb : ((n : Int) == 0) = false := by simpa using h0
      rw [hb]
      simp only [Bool.false_eq_true, if_false]
      have := (Nat.log2_lt (show (n : Int).natAbs ≠ 0 by omega)).mpr (show (n : Int).natAbs < 2 ^ 30 by omega)
      omega
  rw [okV_tup]
  simp only [okA, okV, Bool.and_true, Bool.and_eq_true]
  exact ⟨rfl, hb _ h.1, hb _ h.2.1, hb _ h.2.2⟩
theorem hdP_bytes {g s b : Nat} (h : ScOk (.head g s b)) : Bytes (hdP g s b) := pk_bytes 20 _ (hd_ok g s b h)
theorem ptP_bytes {g b r p c : Nat} {bs : List Int} (h : Bytes bs) : Bytes (ptP g b r p c bs) := by rw [ptP_eq]; exact (enc_bytes g).app ((enc_bytes b).app ((enc_bytes r).app ((enc_bytes p).app ((enc_bytes c).app h))))
theorem sec_bytes {kind : Int} {pl : List Int} (hl : pl.length ≤ 58) (h1 : 1 ≤ kind) (h9 : kind ≤ 9) (hp : Bytes pl) : Bytes (sec (secBody kind pl)) := fun x hx => by
  have hb60 := body_len (kind := kind) hl
  rcases List.mem_append.mp hx with h | h
  · have g := sums_pos (1, 1) (bs := secBody kind pl) (fun z => by rw [z] at hb60; cases hb60)
    unfold chk at h
    simp only [List.mem_cons, List.not_mem_nil, or_false] at h
    omega
  · exact body_bytes hl (by omega) (by omega) hp x h
theorem scB_len {s : Sc} (h : ScOk s) : (scB s).length = 64 := by
  cases s with
  | blank => rfl
  | head g s b => show (sec _).length = 64; unfold sec; rw [List.length_append, body_len (by have := hdP_len h; omega)]; rfl
  | part g b r p c bs => show (sec _).length = 64; unfold sec; rw [List.length_append, body_len (by have := ptP_len h; omega)]; rfl
theorem scB_bytes {s : Sc} (h : ScOk s) : Bytes (scB s) := by
  cases s with
  | blank => intro b hb; have := (List.mem_replicate.mp hb).2; omega
  | head g s b => exact sec_bytes (by have := hdP_len h; omega) (by decide) (by decide) (hdP_bytes h)
  | part g b r p c bs => exact sec_bytes (by have := ptP_len h; omega) (by decide) (by decide) (ptP_bytes h.2.2.2.2.2.2)
def scR : Sc → Sr
  | .blank => .blank
  | .head g s b => .ok 1 (hdP g s b)
  | .part g b r p c bs => .ok 2 (ptP g b r p c bs)
theorem scB_rd {s : Sc} (h : ScOk s) : rdS (scB s) = scR s := by
  cases s with
  | blank => exact if_pos rfl
  | head g s b => exact rd_right (by have := hdP_len h; omega) (by decide) (by decide)
  | part g b r p c bs => exact rd_right (by have := ptP_len h; omega) (by decide) (by decide)
def Sv (K : PySem.W.Frag) (H : Hp) (v : V) (s : Sc) : Prop := ∃ p, v = .ref p ∧ SqT K H p ((scB s).map V.int)
theorem Sv.same {K : PySem.W.Frag} {H H' : Hp} {v : V} {s : Sc} (e : Same H H') (h : Sv K H v s) : Sv K H' v s := by
  obtain ⟨p, rfl, h⟩ := h
  exact ⟨p, rfl, sqt_same e h⟩
structure SvA (K : PySem.W.Frag) (H : Hp) (vs : List V) (D : List Sc) : Prop where
  l : vs.length = D.length
  a : ∀ (i : Nat) (s : Sc), D[i]? = some s → ∃ v, vs[i]? = some v ∧ Sv K H v s
  o : ∀ s ∈ D, ScOk s
theorem SvA.same {K : PySem.W.Frag} {H H' : Hp} {vs : List V} {D : List Sc} (e : Same H H') (h : SvA K H vs D) : SvA K H' vs D :=
  ⟨h.l, fun i s hs => by obtain ⟨v, hv, g⟩ := h.a i s hs; exact ⟨v, hv, g.same e⟩, h.o⟩
def scAt (D : List Sc) (i : Nat) : Sc := (D[i]?).getD .blank
theorem SvA.ok {K : PySem.W.Frag} {H : Hp} {vs : List V} {D : List Sc} (h : SvA K H vs D) (i : Nat) : ScOk (scAt D i) := by
  unfold scAt
  cases e : D[i]? with
  | none => exact True.intro
  | some s => exact h.o s (List.mem_of_getElem? e)
/-- a record read -/
def rdMore (D : List Sc) (at' g b r c : Nat) : Nat → Nat → List Int → Option (List Int)
  | _, 0, acc => some acc
  | k, f + 1, acc => match scAt D (at' + k) with
    | .part g' b' r' p' c' bs => if g' = g ∧ b' = b ∧ r' = r ∧ p' = k ∧ c' = c then rdMore D at' g b r c (k + 1) f (acc ++ bs) else none
    | _ => none
def rdRec (D : List Sc) (at' g r least : Nat) : Option (Nat × List Int) := match scAt D at' with
  | .part g' b r' p c bs => if g' = g ∧ r' = r ∧ p = 0 ∧ least ≤ b then (rdMore D at' g b r c 1 (c - 1) bs).map fun row => (b, row) else none
  | _ => none
theorem or_y {ta tb : TT} {σ : L2.St} {H : Hp} {Q : Bool → Hp → Prop} (ha : ∀ R : Bool → Hp → Prop, R true H → ta σ H R) (q : Q true H) : tOr ta tb σ H Q := ha _ ((if_pos rfl).mpr q)
def sp_secat (K : PySem.W.Frag) : Sp := fun vs H Q _ => ∃ (a : Addr) (xs : List V) (D : List Sc) (i : Nat), vs = [.ref a, .int (i : Int)] ∧ SqL K H a xs ∧ SvA K H xs D ∧ ∀ v, Sv K H v (scAt D i) → Q v H
def PartV (H0 H : Hp) (pr : Addr) (g b r p c : Nat) (bs : List Int) : Prop := ∃ t l, H pr = some (.tup [.ref t, .ref l]) ∧ H t = some (.tup (([g, b, r, p, c].map fun (n : Nat) => (n : Int)).map V.int)) ∧ H l = some (.lst (bs.map V.int)) ∧ H0 l = none
def sp_rpart (K : PySem.W.Frag) : Sp := fun vs H Q _ => ∃ (v : V) (s : Sc), vs = [v] ∧ Sv K H v s ∧ ScOk s ∧
  match s with
  | .part g b r p c bs => ∀ pr H', Same H H' → PartV H H' pr g b r p c bs → Q (.ref pr) H'
  | _ => ∀ H', Same H H' → Q .non H'
section
variable {P : Program} {w : World} {K : PySem.W.Frag} {mg : Str → Option Value} {base : Heap}
theorem ok__sector_at (T : TX K mg) : FnOk P w K mg base CX0 1 T.a__sector_at T.d__sector_at ["sectors", "index"] (sp_secat K) := by
  refine T.F__sector_at.ok sc__sector_at (fun vs H Q E h => ?_) (fun cdv A outer s H vs Q E hr h => ?_)
  · obtain ⟨a, xs, D, i, rfl, _⟩ := h
    rfl
  · obtain ⟨a, xs, D, i, rfl, hS, hD, q⟩ := h
    refine ⟨_, (pss_cons (ps_if (pt_cmpR op_lt (pv 1) (pe_callB call_len_seq (by rfl) T.n_len PySem.boot_len (pa_cons (pv 0) pa_nil)) (nomark _)) (pss_one (ps_ret (pe_ix ix_list (pv 0) (pv 1) (fun _ _ => rfl)))) pss_nil)
      (pss_one (ps_ret (pe_glob (v := .ref T.ca_BLANK) (by rfl) T.c_BLANK rfl)))), ?_⟩
    refine ⟨_, rfl, _, rfl, a, _, rfl, .inl hS, _, _, rfl, rfl, _, rfl, ifd (fun hc => ?_) (fun hc => ?_)⟩
    · have hi : i < D.length := by rw [← hD.l]; omega
      obtain ⟨v, hv, g⟩ := hD.a i D[i] (List.getElem?_eq_getElem hi)
      refine ⟨_, rfl, _, rfl, a, _, _, v, rfl, rfl, hS, atI_nat hv, q v ?_⟩
      unfold scAt
      rw [List.getElem?_eq_getElem hi]
      exact g
    · refine q _ ⟨_, rfl, ?_⟩
      have : D[i]? = none := List.getElem?_eq_none (by rw [← hD.l]; omega)
      unfold scAt
      rw [this]
      exact T.q_BLANK H
theorem ok__read_part (T : TX K mg) : FnOk P w K mg base CX0 3 T.a__read_part T.d__read_part ["sector"] (sp_rpart K) := by
  refine T.F__read_part.ok sc__read_part (fun vs H Q E h => ?_) (fun cdv A outer s H vs Q E hr h => ?_)
  · obtain ⟨v, s, rfl, _⟩ := h
    rfl
  · obtain ⟨_, s, rfl, ⟨p, rfl, hT⟩, hok, q⟩ := h
    refine ⟨_, (pss_cons (ps_set (i := 1) sc__read_part.nd rfl (Or.inl rfl) (pe_call (ok_read_sector T) (hr.mono (by decide)) (by rfl) T.g_read_sector T.F_read_sector.kp T.b_read_sector .nil passL (pa_cons (pv 0) pa_nil)))
      (pss_cons (ps_if (PW.pt (pw_or (pt_cmpR op_isN (pv 1) pe_non (nomark _)) (pw_or1 (pt_cmpR op_ne (pe_ix ix_tup (pv 1) pe_int (fun _ _ => rfl)) (pe_glob (v := .int 2) (by rfl) T.c_PART_KIND ⟨_, rfl⟩) (nomark _))))) (pss_one (ps_ret pe_non)) pss_nil)
      (pss_cons (ps_set (i := 2) sc__read_part.nd rfl (Or.inl rfl) (pe_ix ix_tup (pv 1) pe_int (fun _ _ => rfl)))
      (pss_cons (ps_set (i := 3) sc__read_part.nd rfl (Or.inl rfl) (pe_lst pa_nil))
      (pss_cons (ps_set (i := 4) sc__read_part.nd rfl (Or.inl rfl) pe_int)
      (pss_cons (ps_for PassesOwn.never rfl (pi_range1 (by rfl) T.n_range (pa_cons pe_int pa_nil)) (pg_name (i := 5) sc__read_part.nd rfl (Or.inl rfl))
        (pss_cons (ps_asg (pe_call (ok_take_number T) (hr.mono (by decide)) (by rfl) T.g_take_number T.F_take_number.kp T.b_take_number .nil passL (pa_cons (pv 2) (pa_cons (pv 4) pa_nil))) (pg_tup (by rfl) (pgs_cons (pg_name (i := 6) sc__read_part.nd rfl (Or.inl rfl)) (pgs_cons (pg_name (i := 4) sc__read_part.nd rfl (Or.inl rfl)) pgs_nil))))
        (pss_one (ps_expr (pe_bm PySem.F.plainAttrs_list PySem.F.slot_list_append PySem.F.type_list_append mt_append (pv 3) (pa_cons (pv 6) pa_nil))))))
      (pss_one (ps_ret (pe_tup (pa_cons (pe_callTy call_tuple_of (by rfl) T.n_tuple (by decide +kernel) (pa_cons (pv 3) pa_nil)) (pa_cons (pe_slice sl_list (pv 2) (po_some (pv 4)) po_none) pa_nil))))))))))), ?_⟩
    have hrd := scB_rd hok
    refine ⟨_, rfl, p, scB s, rfl, hT, scB_len hok, scB_bytes hok, fun e => ?_, (fun e => by rw [hrd] at e; cases s <;> cases e), fun kind pl e pp pq H1 s1 ep eq => ?_⟩
    · have hs : s = .blank := by rw [hrd] at e; cases s <;> first | rfl | cases e
      subst hs
      dsimp only [gName, tNext, tSeq, tIfS]
      exact or_y (fun R r => ⟨_, rfl, rfl, _, rfl, by rw [decide_eq_true rfl]; exact r⟩) (ifbt rfl (q H (Same.refl _)))
    · rw [hrd] at e
      cases s with
      | blank => cases e
      | head g s b =>
        obtain ⟨rfl, rfl⟩ : 1 = kind ∧ hdP g s b = pl := by cases e; exact ⟨rfl, rfl⟩
        dsimp only [gName, tNext, tSeq, tIfS]
        exact or_use (x := false) (y := true) (fun R r => ⟨_, rfl, rfl, _, rfl, by rw [decide_eq_false (by intro z; cases z)]; exact r⟩) (fun R r => ⟨_, rfl, pp, _, 0, .int 1, rfl, rfl, sqt ep, atI_nat (j := 0) rfl, rfl, _, rfl, r⟩) (ifbt rfl (q H1 s1))
      | part g b r p' c bs =>
        obtain ⟨rfl, rfl⟩ : 2 = kind ∧ ptP g b r p' c bs = pl := by cases e; exact ⟨rfl, rfl⟩
        have hpl := ptP_len hok
        have hby := ptP_bytes (g := g) (b := b) (r := r) (p := p') (c := c) hok.2.2.2.2.2.2
        dsimp only at q
        dsimp only [gName, tNext, tSeq, tIfS]
        refine or_use (x := false) (y := false) (fun R r => ⟨_, rfl, rfl, _, rfl, by rw [decide_eq_false (by intro z; cases z)]; exact r⟩) (fun R r => ⟨_, rfl, pp, _, 0, .int 2, rfl, rfl, sqt ep, atI_nat (j := 0) rfl, rfl, _, rfl, r⟩) (ifbf rfl ?_)
        refine ⟨_, rfl, pp, _, 1, .ref pq, rfl, rfl, sqt ep, atI_nat (j := 1) rfl, Nat.zero_le _, fun pn hpn => ?_⟩
        have s2 := same_upd (o := .lst []) hpn
        have en : (upd H1 pn (.lst [])) pn = some (.lst []) := upd_same
        have eq2 := s2 _ _ eq
        generalize upd H1 pn (.lst []) = H2 at s2 en eq2
        have hn : ∀ t : Nat, t < 5 → ∃ n : Nat, [g, b, r, p', c][t]? = some n ∧ n < 2097152 := fun t ht => by
          obtain ⟨h1, h2, h3, h4, h5, _⟩ := hok
          match t, ht with
          | 0, _ => exact ⟨g, rfl, h1⟩
          | 1, _ => exact ⟨b, rfl, h2⟩
          | 2, _ => exact ⟨r, rfl, h3⟩
          | 3, _ => exact ⟨p', rfl, by omega⟩
          | 4, _ => exact ⟨c, rfl, by omega⟩
        unfold ptP at hpl hby eq2 eq
        have h5 : [g, b, r, p', c].length = 5 := rfl
        generalize hns : [g, b, r, p', c] = ns at hpl hby eq2 eq hn h5
        refine ⟨5, rfl, by decide, by decide, for_range (lo := 0) (n := 5) (fun t σ G => ∃ (x5 x6 : Option V), σ = [some (.ref p), some (.ref pp), some (.ref pq), some (.ref pn), some (.int (((ns.take t).flatMap enc).length : Int)), x5, x6] ∧ Same H1 G ∧ G pn = some (.lst ((((ns.take t).map fun (n : Nat) => (n : Int)).map V.int)))) ⟨none, none, rfl, s2, en⟩ ?_ ?_⟩
        · rintro t σ G ht ⟨x5, x6, rfl, s3, e3⟩
          have ht5 : t < ns.length := by omega
          obtain ⟨n, hn1, hn2⟩ := hn t (by omega)
          have hnt : ns[t] = n := by rw [List.getElem?_eq_getElem ht5] at hn1; exact Option.some.inj hn1
          have hrdn : rd ((ns.flatMap enc ++ bs).drop ((ns.take t).flatMap enc).length) = .num (n : Int) (enc n).length := by
            rw [flat_cut ns bs ht5, hnt]
            have := rd_enc n 500 0 0 ((ns.drop (t + 1)).flatMap enc ++ bs) (by have := enc3 hn2; omega) (.inl rfl)
            unfold rd
            rw [this]
            simp
          have hmore := flat_more ns ht5
          rw [hnt] at hmore
          refine ⟨_, rfl, _, rfl, pq, _, ((ns.take t).flatMap enc).length, rfl, sql (s3 _ _ eq), hby, flat_le ns bs t, by omega, fun n' c' e' p6 G2 _ s4 e6 => ?_, fun e' => ?_, fun e' => ?_⟩
          · obtain ⟨rfl, rfl⟩ : (n : Int) = n' ∧ (enc n).length = c' := by rw [hrdn] at e'; cases e'; exact ⟨rfl, rfl⟩
            have e3' := s4 _ _ e3
            refine ⟨p6, _, rfl, sqt e6, rfl, .int (n : Int), _, rfl, _, _, rfl, rfl, ?_⟩
            refine ⟨_, rfl, .inl ⟨rfl, _, sql e3'⟩, _, rfl, pn, _, _, rfl, rfl, e3', szl (by rw [List.length_map, List.length_map, List.length_take]; omega), ?_⟩
            refine ⟨some (.int (0 + (t : Int))), some (.int (n : Int)), by rw [hmore]; rfl, same_put (s3.trans s4) hpn, ?_⟩
            rw [upd_same, List.take_succ_eq_append_getElem ht5, hnt, List.map_append, List.map_append]
            rfl
          · rw [hrdn] at e'; cases e'
          · rw [hrdn] at e'; cases e'
        · rintro σ G ⟨x5, x6, rfl, s3, e3⟩
          rw [List.take_of_length_le (by omega)] at e3
          have hix : (ns.take 5).flatMap enc = ns.flatMap enc := by rw [List.take_of_length_le (by omega)]
          rw [hix]
          refine ⟨_, rfl, pn, _, rfl, .inl ⟨sql e3, fun pt hpt => ?_⟩⟩
          have s4 := same_upd (o := .tup ((ns.map fun (n : Nat) => (n : Int)).map V.int)) hpt
          have et : (upd G pt (.tup ((ns.map fun (n : Nat) => (n : Int)).map V.int))) pt = some (.tup ((ns.map fun (n : Nat) => (n : Int)).map V.int)) := upd_same
          generalize upd G pt (.tup ((ns.map fun (n : Nat) => (n : Int)).map V.int)) = G4 at s4 et
          refine ⟨_, rfl, _, rfl, _, rfl, pq, _, rfl, sql (s4 _ _ (s3 _ _ eq)), fun pc hpc => ?_⟩
          have ecut : cutV ((ns.flatMap enc ++ bs).map V.int) (some ((ns.flatMap enc).length : Int)) none = bs.map V.int := by
            rw [cutn0, ← List.map_drop, List.drop_left]
          rw [ecut]
          have s5 := same_upd (o := .lst (bs.map V.int)) hpc
          refine ⟨(by show 2 ≤ sizeLine; decide), fun pr hpr => q pr _ (((s1.trans s3).trans (s4.trans s5)).trans (same_upd hpr)) ⟨pt, pc, upd_same, ?_, same_upd hpr _ _ upd_same, none_of ((s1.trans s3).trans s4) hpc⟩⟩
          rw [hns]
          exact same_upd hpr _ _ (s5 _ _ et)
end
def n5 (g b r p c : Nat) : List Int := [g, b, r, p, c].map fun (n : Nat) => (n : Int)
theorem n5_eq (g b r p c g' b' r' p' c' : Nat) : decide (n5 g b r p c = n5 g' b' r' p' c') = decide (g = g' ∧ b = b' ∧ r = r' ∧ p = p' ∧ c = c') := by
  unfold n5
  rw [Bool.eq_iff_iff, decide_eq_true_eq, decide_eq_true_eq]
  simp only [List.map_cons, List.map_nil, List.cons.injEq, and_true]
  omega
theorem or_u {ta tb : TT} {σ : L2.St} {H : Hp} {Q : Bool → Hp → Prop} {x y : Bool} (ha : ∀ R : Bool → Hp → Prop, (∀ G, Same H G → R x G) → ta σ H R) (hb : ∀ G, Same H G → ∀ R : Bool → Hp → Prop, (∀ G', Same G G' → R y G') → tb σ G R) (q : ∀ G, Same H G → Q (x || y) G) : tOr ta tb σ H Q := by
  refine ha _ fun G s => ?_
  cases x with
  | true => exact (if_pos rfl).mpr (q G s)
  | false => exact (if_neg Bool.false_ne_true).mpr (hb G s _ fun G' s' => q G' (s.trans s'))
def sp_rrec (K : PySem.W.Frag) : Sp := fun vs H Q _ => ∃ (a : Addr) (xs : List V) (D : List Sc) (i g r least : Nat), vs = [.ref a, .int (i : Int), .int (g : Int), .int (r : Int), .int (least : Int)] ∧ SqL K H a xs ∧ SvA K H xs D ∧
  match rdRec D i g r least with
  | some (b, row) => ∀ p l H', Same H H' → H' p = some (.tup [.int (b : Int), .ref l]) → H' l = some (.lst (row.map V.int)) → H l = none → Q (.ref p) H'
  | none => ∀ H', Same H H' → Q .non H'
section
variable {P : Program} {w : World} {K : PySem.W.Frag} {mg : Str → Option Value} {base : Heap}
theorem ok__read_record (T : TX K mg) : FnOk P w K mg base CX0 4 T.a__read_record T.d__read_record ["sectors", "at", "generation", "record", "least_boot"] (sp_rrec K) := by
  refine T.F__read_record.ok sc__read_record (fun vs H Q E h => ?_) (fun cdv A outer s H vs Q E hr h => ?_)
  · obtain ⟨a, xs, D, i, g, r, least, rfl, _⟩ := h
    rfl
  · obtain ⟨a, xs, D, i, g, r, least, rfl, hS, hD, q⟩ := h
    refine ⟨_, (pss_cons (ps_set (i := 5) sc__read_record.nd rfl (Or.inl rfl) (pe_call (ok__read_part T) (hr.mono (by decide)) (by rfl) T.g__read_part T.F__read_part.kp T.b__read_part .nil pass0 (pa_cons (pe_call (ok__sector_at T) (hr.mono (by decide)) (by rfl) T.g__sector_at T.F__sector_at.kp T.b__sector_at .nil pass0 (pa_cons (pv 0) (pa_cons (pv 1) pa_nil))) pa_nil)))
      (pss_cons (ps_if (pt_cmpR op_isN (pv 5) pe_non (nomark _)) (pss_one (ps_ret pe_non)) pss_nil)
      (pss_cons (ps_set (i := 6) sc__read_record.nd rfl (Or.inl rfl) (pe_ix ix_tup (pe_ix ix_tup (pv 5) pe_int (fun _ _ => rfl)) pe_int (fun _ _ => rfl)))
      (pss_cons (ps_set (i := 7) sc__read_record.nd rfl (Or.inl rfl) (pe_ix ix_tup (pe_ix ix_tup (pv 5) pe_int (fun _ _ => rfl)) pe_int (fun _ _ => rfl)))
      (pss_cons (ps_if (PW.pt (pw_or (pt_cmpR (op_neD hr.units) (pe_ix ix_tup (pv 5) pe_int (fun _ _ => rfl)) (pe_tup (pa_cons (pv 2) (pa_cons (pv 6) (pa_cons (pv 3) (pa_cons pe_int (pa_cons (pv 7) pa_nil)))))) (nomark _)) (pw_or1 (pt_cmpR op_lt (pv 6) (pv 4) (nomark _))))) (pss_one (ps_ret pe_non)) pss_nil)
      (pss_cons (ps_set (i := 8) sc__read_record.nd rfl (Or.inl rfl) (pe_ix ix_tup (pv 5) pe_int (fun _ _ => rfl)))
      (pss_cons (ps_for PassesOwn.never rfl (pi_range2 (by rfl) T.n_range (pa_cons pe_int (pa_cons (pv 7) pa_nil))) (pg_name (i := 9) sc__read_record.nd rfl (Or.inl rfl))
        (pss_cons (ps_set (i := 5) sc__read_record.nd rfl (Or.inl rfl) (pe_call (ok__read_part T) (hr.mono (by decide)) (by rfl) T.g__read_part T.F__read_part.kp T.b__read_part .nil pass0 (pa_cons (pe_call (ok__sector_at T) (hr.mono (by decide)) (by rfl) T.g__sector_at T.F__sector_at.kp T.b__sector_at .nil pass0 (pa_cons (pv 0) (pa_cons (pe_op op_add (pv 1) (pv 9)) pa_nil))) pa_nil)))
        (pss_cons (ps_if (PW.pt (pw_or (pt_cmpR op_isN (pv 5) pe_non (nomark _)) (pw_or1 (pt_cmpR (op_neD hr.units) (pe_ix ix_tup (pv 5) pe_int (fun _ _ => rfl)) (pe_tup (pa_cons (pv 2) (pa_cons (pv 6) (pa_cons (pv 3) (pa_cons (pv 9) (pa_cons (pv 7) pa_nil)))))) (nomark _))))) (pss_one (ps_ret pe_non)) pss_nil)
        (pss_one (ps_set (i := 8) sc__read_record.nd rfl (Or.inl rfl) (pe_op op_cat (pv 8) (pe_ix ix_tup (pv 5) pe_int (fun _ _ => rfl))))))))
      (pss_one (ps_ret (pe_tup (pa_cons (pv 6) (pa_cons (pv 8) pa_nil)))))))))))), ?_⟩
    refine ⟨_, rfl, _, rfl, a, xs, D, i, rfl, hS, hD, fun v hv => ⟨v, scAt D i, rfl, hv, hD.ok i, ?_⟩⟩
    have hok := hD.ok i
    unfold rdRec at q
    have none_ : (∀ H', Same H H' → Q .non H') → ∀ G, Same H G → Q .non G := fun f => f
    cases e : scAt D i with
    | blank =>
      rw [e] at q
      intro H1 s1
      exact ⟨_, rfl, rfl, _, rfl, ifbt (decide_eq_true rfl) (q H1 s1)⟩
    | head g1 s1 b1 =>
      rw [e] at q
      intro H1 s1
      exact ⟨_, rfl, rfl, _, rfl, ifbt (decide_eq_true rfl) (q H1 s1)⟩
    | part g1 b r1 p1 c bs =>
      rw [e] at q hok
      dsimp only at q ⊢
      intro pr H1 s1 ⟨t, l, epr, et, el, fl⟩
      have h5 : n5 g1 b r1 p1 c = [g1, b, r1, p1, c].map fun (n : Nat) => (n : Int) := rfl
      rw [← h5] at et
      have a1 : atI ((n5 g1 b r1 p1 c).map V.int) 1 = some (.int (b : Int)) := atI_nat (j := 1) rfl
      have a4 : atI ((n5 g1 b r1 p1 c).map V.int) 4 = some (.int (c : Int)) := atI_nat (j := 4) rfl
      refine ⟨_, rfl, rfl, _, rfl, ifbf (decide_eq_false (by intro z; cases z)) ?_⟩
      refine ⟨_, rfl, pr, _, 0, .ref t, rfl, rfl, sqt epr, atI_nat (j := 0) rfl, t, _, 1, .int (b : Int), rfl, rfl, sqt et, a1, ?_⟩
      refine ⟨_, rfl, pr, _, 0, .ref t, rfl, rfl, sqt epr, atI_nat (j := 0) rfl, t, _, 4, .int (c : Int), rfl, rfl, sqt et, a4, ?_⟩
      dsimp only [gName, tNext, tSeq, tIfS]
      refine or_u (x := !decide (n5 g1 b r1 p1 c = n5 g b r 0 c)) (y := decide ((b : Int) < (least : Int))) (fun R rr => ⟨_, rfl, pr, _, 0, .ref t, rfl, rfl, sqt epr, atI_nat (j := 0) rfl, _, rfl, _, rfl, _, rfl, _, rfl, (by show 5 ≤ sizeLine; decide), fun pt hpt => ?_⟩) (fun G sG R rr => ⟨_, rfl, _, rfl, _, _, rfl, rfl, _, rfl, rr _ (Same.refl _)⟩) (fun G sG => ?_)
      · have s2 := same_upd (o := .tup ((n5 g b r 0 c).map V.int)) hpt
        refine ⟨_, _, .tup (sqt (s2 _ _ et)) (dpa_ints _), .tup (sqt upd_same) (dpa_ints (n5 g b r 0 c)), (flat_tints _).sh (by decide), (flat_tints _).sh (by decide), _, rfl, ?_⟩
        rw [eqv_tints]
        exact rr _ s2
      rw [n5_eq]
      by_cases hc : g1 = g ∧ r1 = r ∧ p1 = 0 ∧ least ≤ b
      · rw [if_pos hc] at q
        obtain ⟨rfl, rfl, rfl, hb⟩ := hc
        rw [decide_eq_true ⟨rfl, rfl, rfl, rfl, rfl⟩, decide_eq_false (show ¬ ((b : Int) < (least : Int)) by omega)]
        refine ifbf rfl ?_
        have epr := sG _ _ epr
        have el := sG _ _ el
        have s1G := s1.trans sG
        refine ⟨_, rfl, pr, _, 1, .ref l, rfl, rfl, sqt epr, atI_nat (j := 1) rfl, ?_⟩
        have hok2 := hok
        refine ⟨_, rfl, 1, (c : Int), rfl, ⟨by decide, by decide, by omega, by have := hok.2.2.2.2.1; omega⟩, ?_⟩
        refine for_range (lo := 1) (n := ((c : Int) - 1).toNat) (fun k σ G' => ∃ (pf pl : Addr) (acc : List Int) (x9 : Option V), σ = [some (.ref a), some (.int (i : Int)), some (.int (g1 : Int)), some (.int (r1 : Int)), some (.int (least : Int)), some (.ref pf), some (.int (b : Int)), some (.int (c : Int)), some (.ref pl), x9] ∧ Same H G' ∧ H pl = none ∧ G' pl = some (.lst (acc.map V.int)) ∧ acc.length ≤ 40 * (k + 1) ∧ rdMore D i g1 b r1 c 1 (c - 1) bs = rdMore D i g1 b r1 c (1 + k) (c - 1 - k) acc) ⟨pr, l, bs, none, rfl, s1G, fl, el, by have := hok.2.2.2.2.2.1; omega, rfl⟩ ?_ ?_
        · rintro k σ G' hk ⟨pf, pl, acc, x9, rfl, s2, fpl, e2, hl, hrm⟩
          have hik : (i : Int) + (1 + (k : Int)) = ((i + (1 + k) : Nat) : Int) := by omega
          have hk1 : k < c - 1 := by omega
          refine ⟨_, rfl, _, rfl, _, rfl, _, _, rfl, rfl, a, xs, D, i + (1 + k), congrArg (fun z => [V.ref a, V.int z]) hik, s2.seq hS, hD.same s2, fun v2 hv2 => ⟨v2, scAt D (i + (1 + k)), rfl, hv2, hD.ok _, ?_⟩⟩
          rw [show c - 1 - k = (c - 1 - (k + 1)) + 1 by omega, rdMore] at hrm
          have hok2 := hD.ok (i + (1 + k))
          cases e3 : scAt D (i + (1 + k)) with
          | blank =>
            rw [e3] at hrm
            have qn : ∀ H', Same H H' → Q .non H' := by rw [hrm] at q; exact q
            intro H2 s3
            dsimp only [gName, tNext, tSeq, tIfS]
            exact or_y (fun R rr => ⟨_, rfl, rfl, _, rfl, by rw [decide_eq_true rfl]; exact rr⟩) (ifbt rfl (qn _ (s2.trans s3)))
          | head g2 s2' b2 =>
            rw [e3] at hrm
            have qn : ∀ H', Same H H' → Q .non H' := by rw [hrm] at q; exact q
            intro H2 s3
            dsimp only [gName, tNext, tSeq, tIfS]
            exact or_y (fun R rr => ⟨_, rfl, rfl, _, rfl, by rw [decide_eq_true rfl]; exact rr⟩) (ifbt rfl (qn _ (s2.trans s3)))
          | part g2 b2 r2 p2 c2 bs2 =>
            rw [e3] at hrm hok2
            dsimp only at hrm ⊢
            intro pr2 H2 s3 ⟨t2, l2, epr2, et2, el2, _⟩
            have h52 : n5 g2 b2 r2 p2 c2 = [g2, b2, r2, p2, c2].map fun (n : Nat) => (n : Int) := rfl
            rw [← h52] at et2
            have h6 : n5 g1 b r1 (1 + k) c = [(g1 : Int), (b : Int), (r1 : Int), 1 + (k : Int), (c : Int)] := by unfold n5; simp only [List.map_cons, List.map_nil]; rw [show ((1 + k : Nat) : Int) = 1 + (k : Int) by omega]
            dsimp only [gName, tNext, tSeq, tIfS]
            refine or_u (x := false) (y := !decide (n5 g2 b2 r2 p2 c2 = n5 g1 b r1 (1 + k) c)) (fun R rr => ⟨_, rfl, rfl, _, rfl, by rw [decide_eq_false (by intro z; cases z)]; exact rr _ (Same.refl _)⟩) (fun G2 sG2 R rr => ?_) (fun G2 sG2 => ?_)
            · refine ⟨_, rfl, pr2, _, 0, .ref t2, rfl, rfl, sqt (sG2 _ _ epr2), atI_nat (j := 0) rfl, _, rfl, _, rfl, _, rfl, _, rfl, _, rfl, (by show 5 ≤ sizeLine; decide), fun pt hpt => ?_⟩
              have s4 := same_upd (o := .tup ((n5 g1 b r1 (1 + k) c).map V.int)) hpt
              have ept : (upd G2 pt (.tup ((n5 g1 b r1 (1 + k) c).map V.int))) pt = some (.tup ((n5 g1 b r1 (1 + k) c).map V.int)) := upd_same
              rw [h6] at ept s4
              refine ⟨.tuple ((n5 g2 b2 r2 p2 c2).map .int), .tuple ((n5 g1 b r1 (1 + k) c).map .int), .tup (sqt (s4 _ _ (sG2 _ _ et2))) (dpa_ints _), .tup (sqt ept) (by rw [h6]; exact dpa_ints _), (flat_tints _).sh (by decide), (flat_tints _).sh (by decide), _, rfl, ?_⟩
              rw [eqv_tints]
              exact rr _ s4
            rw [n5_eq]
            by_cases hc2 : g2 = g1 ∧ b2 = b ∧ r2 = r1 ∧ p2 = 1 + k ∧ c2 = c
            · rw [if_pos hc2] at hrm
              rw [decide_eq_true hc2]
              refine ifbf rfl ?_
              have e2' := sG2 _ _ (s3 _ _ e2)
              refine ⟨_, rfl, _, rfl, pr2, _, 1, .ref l2, rfl, rfl, sqt (sG2 _ _ epr2), atI_nat (j := 1) rfl, pl, l2, _, _, rfl, rfl, e2', sG2 _ _ el2, sz (by rw [List.length_map, List.length_map]; have := hok2.2.2.2.2.2.1; have := hok.2.2.2.2.1; omega), fun pn hpn => ?_⟩
              refine ⟨pr2, pn, acc ++ bs2, _, rfl, ((s2.trans s3).trans sG2).trans (same_upd hpn), none_of ((s2.trans s3).trans sG2) hpn, by rw [upd_same, List.map_append], by rw [List.length_append]; have := hok2.2.2.2.2.2.1; omega, ?_⟩
              rw [hrm, show 1 + k + 1 = 1 + (k + 1) by omega]
            · rw [if_neg hc2] at hrm
              have qn : ∀ H', Same H H' → Q .non H' := by rw [hrm] at q; exact q
              rw [decide_eq_false hc2]
              exact ifbt rfl (qn _ ((s2.trans s3).trans sG2))
        · rintro σ G' ⟨pf, pl, acc, x9, rfl, s2, fpl, e2, hl, hrm⟩
          have hk0 : c - 1 - ((c : Int) - 1).toNat = 0 := by omega
          rw [hk0, rdMore] at hrm
          rw [hrm] at q
          exact ⟨_, rfl, _, rfl, (by show 2 ≤ sizeLine; decide), fun p hp => q p pl _ (s2.trans (same_upd hp)) upd_same (same_upd hp _ _ e2) fpl⟩
      · rw [if_neg hc] at q
        have hx : (!decide (g1 = g ∧ b = b ∧ r1 = r ∧ p1 = 0 ∧ c = c) || decide ((b : Int) < (least : Int))) = true := by
          rw [Bool.or_eq_true, Bool.not_eq_true', decide_eq_false_iff_not, decide_eq_true_eq]
          by_cases h1 : g1 = g ∧ b = b ∧ r1 = r ∧ p1 = 0 ∧ c = c
          · refine .inr ?_
            have : ¬ least ≤ b := fun z => hc ⟨h1.1, h1.2.2.1, h1.2.2.2.1, z⟩
            omega
          · exact .inl h1
        rw [hx]
        exact ifbt rfl (q _ (s1.trans sG))
end
mutual
theorem okV_fits : ∀ (n : Nat) (d : PyData), okV n d = true → fits d = true
  | _, .none, _ => by simp [fits]
  | _, .bool _, _ => by simp [fits]
  | _, .int _, _ => by simp [fits]
  | n, .str x, h => by
    rw [okV_str, Bool.and_eq_true, decide_eq_true_eq] at h
    simp only [fits, decide_eq_true_eq]
    omega
  | 0, .tuple ds, h => by rw [okV_tup0] at h; cases h
  | n + 1, .tuple ds, h => by
    rw [okV_tup, Bool.and_eq_true, decide_eq_true_eq] at h
    simp only [fits, Bool.and_eq_true, decide_eq_true_eq]
    exact ⟨by omega, okA_fits n ds h.2⟩
  | _, .list ds, h => by rw [okV_lst] at h; cases h
  | m, .dict ds, h => by cases m <;> simp [okV] at h
theorem okA_fits : ∀ (n : Nat) (ds : List PyData), okA n ds = true → fitsA ds = true
  | _, [], _ => by simp [fitsA]
  | n, d :: ds, h => by
    simp only [okA, Bool.and_eq_true] at h
    simp only [fitsA, Bool.and_eq_true]
    exact ⟨okV_fits n d h.1, okA_fits n ds h.2⟩
end
def nw1 (s : Sc) (n : Nat × Nat × Nat) : Nat × Nat × Nat := match s with
  | .head g st b => if n.1 < g then (g, st, b) else n
  | _ => n
def nwF (D : List Sc) : Nat → Nat × Nat × Nat
  | 0 => (0, 2, 0)
  | i + 1 => nw1 (scAt D i) (nwF D i)
def isHd : Sc → Prop
  | .part .. => False
  | _ => True
theorem dp_tup3 {K : PySem.W.Frag} {H : Hp} {v : V} {x y z : Int} (h : Dp K H v (.tuple [.int x, .int y, .int z])) : ∃ p, v = .ref p ∧ SqT K H p [.int x, .int y, .int z] := by
  cases h with
  | tup h a =>
    cases a with
    | cons h1 a => cases h1; cases a with
      | cons h2 a => cases h2; cases a with
        | cons h3 a => cases h3; cases a; exact ⟨_, rfl, h⟩
def sp_newest (K : PySem.W.Frag) : Sp := fun vs H Q _ => ∃ (a : Addr) (xs : List V) (D : List Sc), vs = [.ref a] ∧ SqL K H a xs ∧ SvA K H xs D ∧ (∀ i, i < 2 → isHd (scAt D i)) ∧
  ∀ p H', Same H H' → SqT K H' p [.int ((nwF D 2).1 : Int), .int ((nwF D 2).2.1 : Int), .int ((nwF D 2).2.2 : Int)] → Q (.ref p) H'
def pc (n : Nat) : Nat := (n + 39) / 40
def sp_pc (K : PySem.W.Frag) : Sp := fun vs H Q _ => ∃ (a : Addr) (bs : List Int), vs = [.ref a] ∧ SqL K H a (bs.map V.int) ∧ Q (.int (pc bs.length : Int)) H
def partOf (g b r : Nat) (row : List Int) (k : Nat) : Sc := .part g b r k (pc row.length) ((row.drop (40 * k)).take 40)
def partsOf (g b r : Nat) (row : List Int) : List Sc := (List.range (pc row.length)).map (partOf g b r row)
def allParts (g b : Nat) : Nat → List (List Int) → List Sc
  | _, [] => []
  | r, row :: rows => partsOf g b r row ++ allParts g b (r + 1) rows
def RowOk (row : List Int) : Prop := Bytes row ∧ row.length ≤ 40000
theorem part_ok {g b r : Nat} {row : List Int} {k : Nat} (hg : g < 2097152) (hb : b < 2097152) (hr : r < 2097152) (h : RowOk row) (hk : k < pc row.length) : ScOk (partOf g b r row k) := by
  have := h.2
  unfold pc at hk
  refine ⟨hg, hb, hr, by omega, by unfold pc; omega, by rw [List.length_take]; omega, fun x hx => h.1 x (List.mem_of_mem_drop (List.mem_of_mem_take hx))⟩
def sp_psec (K : PySem.W.Frag) : Sp := fun vs H Q _ => ∃ (a : Addr) (g b r k : Nat) (row : List Int), vs = [.int (g : Int), .int (b : Int), .int (r : Int), .int (k : Int), .ref a] ∧ SqL K H a (row.map V.int) ∧ g < 2097152 ∧ b < 2097152 ∧ r < 2097152 ∧ RowOk row ∧ k < pc row.length ∧
  ∀ p H', Same H H' → H' p = some (.tup ((scB (partOf g b r row k)).map V.int)) → Q (.ref p) H'
section
variable {P : Program} {w : World} {K : PySem.W.Frag} {mg : Str → Option Value} {base : Heap}
theorem ok__newest_head (T : TX K mg) : FnOk P w K mg base CX0 45 T.a__newest_head T.d__newest_head ["sectors"] (sp_newest K) := by
  refine T.F__newest_head.ok sc__newest_head (fun vs H Q E h => ?_) (fun cdv A outer s H vs Q E hr h => ?_)
  · obtain ⟨a, xs, D, rfl, _⟩ := h
    rfl
  · obtain ⟨a, xs, D, rfl, hS, hD, hhd, q⟩ := h
    refine ⟨_, (pss_cons (ps_set (i := 1) sc__newest_head.nd rfl (Or.inl rfl) (pe_tup (pa_cons pe_int (pa_cons (pe_glob (v := .int 2) (by rfl) T.c_FIRST_START ⟨_, rfl⟩) (pa_cons pe_int pa_nil)))))
      (pss_cons (ps_for PassesOwn.never rfl (pi_range1 (by rfl) T.n_range (pa_cons (pe_glob (v := .int 2) (by rfl) T.c_FIRST_START ⟨_, rfl⟩) pa_nil)) (pg_name (i := 2) sc__newest_head.nd rfl (Or.inl rfl))
        (pss_cons (ps_set (i := 3) sc__newest_head.nd rfl (Or.inl rfl) (pe_call (ok_read_sector T) (hr.mono (by decide)) (by rfl) T.g_read_sector T.F_read_sector.kp T.b_read_sector .nil passL (pa_cons (pe_call (ok__sector_at T) (hr.mono (by decide)) (by rfl) T.g__sector_at T.F__sector_at.kp T.b__sector_at .nil pass0 (pa_cons (pv 0) (pa_cons (pv 2) pa_nil))) pa_nil)))
        (pss_one (ps_if (pt_cmpR op_notN (pv 3) pe_non (nomark _)) (pss_cons (ps_asg (pv 3) (pg_tup (by rfl) (pgs_cons (pg_name (i := 4) sc__newest_head.nd rfl (Or.inl rfl)) (pgs_cons (pg_name (i := 5) sc__newest_head.nd rfl (Or.inl rfl)) pgs_nil))))
          (pss_cons (ps_if (pt_cmpR op_ne (pv 4) (pe_glob (v := .int 1) (by rfl) T.c_HEAD_KIND ⟨_, rfl⟩) (nomark _)) (pss_one ps_never) pss_nil)
          (pss_cons (ps_set (i := 6) sc__newest_head.nd rfl (Or.inl rfl) (pe_call (ok_unpack T) (hr.mono (by decide)) (by rfl) T.g_unpack T.F_unpack.kp T.b_unpack .nil passL (pa_cons (pv 5) pa_nil)))
          (pss_one (ps_if (pt_cmpR op_gt (pe_ix ix_tup (pv 6) pe_int (fun _ _ => rfl)) (pe_ix ix_tup (pv 1) pe_int (fun _ _ => rfl)) (nomark _)) (pss_one (ps_set (i := 1) sc__newest_head.nd rfl (Or.inl rfl) (pv 6))) pss_nil))))) pss_nil))))
      (pss_one (ps_ret (pv 1))))), ?_⟩
    refine ⟨(by show 3 ≤ sizeLine; decide), fun p0 hp0 => ?_⟩
    refine ⟨2, rfl, by decide, by decide, for_range (lo := 0) (n := 2) (fun i σ G => ∃ (pn : Addr) (x2 x3 x4 x5 x6 : Option V), σ = [some (.ref a), some (.ref pn), x2, x3, x4, x5, x6] ∧ Same H G ∧ SqT K G pn [.int ((nwF D i).1 : Int), .int ((nwF D i).2.1 : Int), .int ((nwF D i).2.2 : Int)]) ⟨p0, none, none, none, none, none, rfl, same_upd hp0, sqt upd_same⟩ ?_ ?_⟩
    · rintro i σ G hi ⟨pn, x2, x3, x4, x5, x6, rfl, s1, hn⟩
      have h0 : (0 : Int) + (i : Int) = (i : Int) := by omega
      refine ⟨_, rfl, _, rfl, a, xs, D, i, congrArg (fun z => [V.ref a, V.int z]) h0, s1.seq hS, hD.same s1, fun v hv => ?_⟩
      obtain ⟨ps, rfl, hT⟩ := hv
      have hok := hD.ok i
      have hrd := scB_rd hok
      have hh := hhd i hi
      refine ⟨ps, scB (scAt D i), rfl, hT, scB_len hok, scB_bytes hok, fun e => ?_, (fun e => by rw [hrd] at e; cases es : scAt D i <;> rw [es] at e <;> cases e), fun kind pl e pp pq H1 s2 ep eq => ?_⟩
      · have hs : scAt D i = .blank := by rw [hrd] at e; cases es : scAt D i <;> rw [es] at e <;> first | rfl | cases e
        refine ⟨_, rfl, rfl, _, rfl, ifbf (by rw [decide_eq_true rfl]; rfl) ⟨pn, _, _, _, _, _, rfl, s1, ?_⟩⟩
        rw [nwF, hs]
        exact hn
      · rw [hrd] at e
        cases es : scAt D i with
        | blank => rw [es] at e; cases e
        | part g b r p c bs => rw [es] at hh; exact hh.elim
        | head g st b =>
          rw [es] at e hok
          obtain ⟨rfl, rfl⟩ : 1 = kind ∧ hdP g st b = pl := by cases e; exact ⟨rfl, rfl⟩
          refine ⟨_, rfl, rfl, _, rfl, ifbt (by rw [decide_eq_false (by intro z; cases z)]; rfl) ?_⟩
          refine ⟨_, rfl, pp, _, rfl, sqt ep, rfl, .int 1, [.ref pq], rfl, .ref pq, [], rfl, rfl, ?_⟩
          refine ⟨_, rfl, rfl, _, rfl, ifbf rfl ?_⟩
          have hlen := hdP_len hok
          have htv := tv_pk 20 _ [] (hd_ok g st b hok)
          rw [List.append_nil] at htv
          refine ⟨_, rfl, pq, hdP g st b, rfl, sql eq, hdP_bytes hok, by omega, ?_⟩
          unfold hdP
          rw [htv]
          dsimp only
          rw [if_neg (Nat.lt_irrefl _)]
          intro v2 H2 s3 hv2
          obtain ⟨ph, rfl, hph⟩ := dp_tup3 hv2
          have s13 := (s1.trans s2).trans s3
          have hn3 := sqt_same (s2.trans s3) hn
          refine ⟨_, rfl, ph, _, 0, _, rfl, rfl, hph, atI_nat (j := 0) rfl, _, rfl, pn, _, 0, _, rfl, rfl, hn3, atI_nat (j := 0) rfl, _, _, rfl, rfl, _, rfl, ifd (fun hc => ?_) (fun hc => ?_)⟩
          · refine ⟨_, rfl, ph, _, _, _, _, _, rfl, s13, ?_⟩
            rw [nwF, es]
            unfold nw1
            dsimp only
            rw [if_pos (by omega)]
            exact hph
          · refine ⟨pn, _, _, _, _, _, rfl, s13, ?_⟩
            rw [nwF, es]
            unfold nw1
            dsimp only
            rw [if_neg (by omega)]
            exact hn3
    · rintro σ G ⟨pn, x2, x3, x4, x5, x6, rfl, s1, hn⟩
      exact ⟨_, rfl, q pn G s1 hn⟩
theorem ok__piece_count (T : TX K mg) : FnOk P w K mg base CX0 1 T.a__piece_count T.d__piece_count ["packed"] (sp_pc K) := by
  refine T.F__piece_count.ok sc__piece_count (fun vs H Q E h => ?_) (fun cdv A outer s H vs Q E hr h => ?_)
  · obtain ⟨a, bs, rfl, _⟩ := h
    rfl
  · obtain ⟨a, bs, rfl, hS, q⟩ := h
    refine ⟨_, (pss_one (ps_ret (pe_op op_fdiv (pe_op op_sub (pe_op op_add (pe_callB call_len_seq (by rfl) T.n_len PySem.boot_len (pa_cons (pv 0) pa_nil)) (pe_glob (v := .int 40) (by rfl) T.c_PIECE ⟨_, rfl⟩)) pe_int) (pe_glob (v := .int 40) (by rfl) T.c_PIECE ⟨_, rfl⟩)))), ?_⟩
    have hml : (bs.map V.int).length = bs.length := List.length_map _
    refine ⟨_, rfl, a, _, rfl, .inl hS, _, _, rfl, rfl, _, _, rfl, rfl, _, _, rfl, rfl, ⟨by decide, by decide⟩, ?_⟩
    have e : (((bs.map V.int).length : Int) + 40 - 1) / 40 = (pc bs.length : Int) := by rw [hml]; unfold pc; omega
    rw [← e] at q
    exact q
end
theorem sqt_put {K : PySem.W.Frag} {G : Hp} {po a : Addr} {ys xs : List V} {o : HO} (e : G po = some (.lst ys)) (h : SqT K G a xs) : SqT K (upd G po o) a xs := by
  rcases h with (h | ⟨od, h⟩) | h
  · exact .inl (.inl (by rw [upd_ne (fun z => by rw [z, e] at h; cases h)]; exact h))
  · exact .inl (.inr ⟨od, by rw [upd_ne (fun z => by rw [z, e] at h; cases h)]; exact h⟩)
  · exact .inr h
theorem allParts_app (g b : Nat) : ∀ (r : Nat) (xs ys : List (List Int)), allParts g b r (xs ++ ys) = allParts g b r xs ++ allParts g b (r + xs.length) ys
  | r, [], ys => rfl
  | r, x :: xs, ys => by
    rw [List.cons_append, allParts, allParts, allParts_app g b (r + 1) xs ys, List.append_assoc, List.length_cons, show r + 1 + xs.length = r + (xs.length + 1) by omega]
theorem allParts_take (g b r : Nat) {rows : List (List Int)} {i : Nat} {row : List Int} (h : rows[i]? = some row) : allParts g b r (rows.take (i + 1)) = allParts g b r (rows.take i) ++ partsOf g b (r + i) row := by
  have hi : i < rows.length := (List.getElem?_eq_some_iff.mp h).1
  rw [take_more h, allParts_app, List.length_take, Nat.min_eq_left (by omega)]
  rw [allParts, allParts, List.append_nil]
theorem lim3 {n : Nat} (h : n < 2097152) : n < Lim := Nat.lt_of_lt_of_le (show n < 128 ^ 3 from h) (by unfold Lim; exact Nat.pow_le_pow_right (by decide) (by decide))
def WrV (K : PySem.W.Frag) (H : Hp) (v : V) (n : Nat) (s : Sc) : Prop := ∃ p q, v = .ref p ∧ SqT K H p [.str "write", .int (n : Int), .ref q] ∧ SqT K H q ((scB s).map V.int)
theorem WrV.same {K : PySem.W.Frag} {H H' : Hp} {v : V} {n : Nat} {s : Sc} (e : Same H H') (h : WrV K H v n s) : WrV K H' v n s := by
  obtain ⟨p, q, rfl, h1, h2⟩ := h
  exact ⟨p, q, rfl, sqt_same e h1, sqt_same e h2⟩
structure WrA (K : PySem.W.Frag) (H : Hp) (ws : List V) (n : Nat) (ss : List Sc) : Prop where
  l : ws.length = ss.length
  a : ∀ (i : Nat) (s : Sc), ss[i]? = some s → ∃ v, ws[i]? = some v ∧ WrV K H v (n + i) s
theorem WrA.same {K : PySem.W.Frag} {H H' : Hp} {ws : List V} {n : Nat} {ss : List Sc} (e : Same H H') (h : WrA K H ws n ss) : WrA K H' ws n ss :=
  ⟨h.l, fun i s hs => by obtain ⟨v, hv, g⟩ := h.a i s hs; exact ⟨v, hv, g.same e⟩⟩
theorem WrA.put {K : PySem.W.Frag} {G : Hp} {po : Addr} {ys : List V} {o : HO} (e : G po = some (.lst ys)) {ws : List V} {n : Nat} {ss : List Sc} (h : WrA K G ws n ss) : WrA K (upd G po o) ws n ss :=
  ⟨h.l, fun i s hs => by obtain ⟨v, hv, p, q, rfl, h1, h2⟩ := h.a i s hs; exact ⟨_, hv, p, q, rfl, sqt_put e h1, sqt_put e h2⟩⟩
theorem WrA.nil {K : PySem.W.Frag} {H : Hp} (n : Nat) : WrA K H [] n [] := ⟨rfl, fun i s hs => by simp at hs⟩
theorem WrA.app {K : PySem.W.Frag} {H : Hp} {ws us : List V} {n : Nat} {ss ts : List Sc} (h : WrA K H ws n ss) (g : WrA K H us (n + ss.length) ts) : WrA K H (ws ++ us) n (ss ++ ts) := by
  refine ⟨by rw [List.length_append, List.length_append, h.l, g.l], fun i s hs => ?_⟩
  by_cases hi : i < ss.length
  · rw [List.getElem?_append_left hi] at hs
    obtain ⟨v, hv, k⟩ := h.a i s hs
    exact ⟨v, by rw [List.getElem?_append_left (by rw [h.l]; exact hi)]; exact hv, k⟩
  · rw [List.getElem?_append_right (by omega)] at hs
    obtain ⟨v, hv, k⟩ := g.a _ s hs
    refine ⟨v, by rw [List.getElem?_append_right (by rw [h.l]; omega), h.l]; exact hv, ?_⟩
    rw [show n + ss.length + (i - ss.length) = n + i by omega] at k
    exact k
theorem WrA.one {K : PySem.W.Frag} {H : Hp} {v : V} {n : Nat} {s : Sc} (h : WrV K H v n s) : WrA K H [v] n [s] := ⟨rfl, fun i t ht => by
  cases i with
  | zero => cases ht; exact ⟨v, rfl, h⟩
  | succ i => simp at ht⟩
/-- lists of numbers, by reference -/
def RowsA (K : PySem.W.Frag) (H : Hp) (vs : List V) (rows : List (List Int)) : Prop := vs.length = rows.length ∧ ∀ (i : Nat) (row : List Int), rows[i]? = some row → ∃ p, vs[i]? = some (.ref p) ∧ SqL K H p (row.map V.int)
theorem RowsA.same {K : PySem.W.Frag} {H H' : Hp} {vs : List V} {rows : List (List Int)} (e : Same H H') (h : RowsA K H vs rows) : RowsA K H' vs rows :=
  ⟨h.1, fun i row hr => by obtain ⟨p, hv, g⟩ := h.2 i row hr; exact ⟨p, hv, e.seq g⟩⟩
def sp_pw (K : PySem.W.Frag) : Sp := fun vs H Q _ => ∃ (a : Addr) (xs : List V) (rows : List (List Int)) (n g b r : Nat), vs = [.ref a, .int (n : Int), .int (g : Int), .int (b : Int), .int (r : Int)] ∧ SqL K H a xs ∧ RowsA K H xs rows ∧ (∀ row ∈ rows, RowOk row) ∧ g < 2097152 ∧ b < 2097152 ∧ r + rows.length < 2097152 ∧ (allParts g b r rows).length ≤ 50000 ∧
  ∀ p ws H', H p = none → Same H H' → H' p = some (.lst ws) → WrA K H' ws n (allParts g b r rows) → Q (.ref p) H'
def sp_pneed (K : PySem.W.Frag) : Sp := fun vs H Q _ => ∃ (v : V) (d : PyData), vs = [v] ∧ Dp K H v d ∧ okV 20 d = true ∧ (pkL d).length ≤ 90000 ∧ ∀ H', Same H H' → Q (.int (pc (pkL d).length : Int)) H'
section
variable {P : Program} {w : World} {K : PySem.W.Frag} {mg : Str → Option Value} {base : Heap}
theorem ok__part_sector (T : TX K mg) : FnOk P w K mg base CX0 3 T.a__part_sector T.d__part_sector ["generation", "boot", "record", "part", "packed"] (sp_psec K) := by
  refine T.F__part_sector.ok sc__part_sector (fun vs H Q E h => ?_) (fun cdv A outer s H vs Q E hr h => ?_)
  · obtain ⟨a, g, b, r, k, row, rfl, _⟩ := h
    rfl
  · obtain ⟨a, g, b, r, k, row, rfl, hS, hg, hb, hr', hrow, hk, q⟩ := h
    refine ⟨_, (pss_cons (ps_set (i := 5) sc__part_sector.nd rfl (Or.inl rfl) (pe_lst pa_nil))
      (pss_cons (ps_for PassesOwn.never rfl (pi_tup (pe_tup (pa_cons (pv 0) (pa_cons (pv 1) (pa_cons (pv 2) (pa_cons (pv 3) (pa_cons (pe_call (ok__piece_count T) (hr.mono (by decide)) (by rfl) T.g__piece_count T.F__piece_count.kp T.b__piece_count .nil pass0 (pa_cons (pv 4) pa_nil)) pa_nil))))))) (pg_name (i := 6) sc__part_sector.nd rfl (Or.inl rfl))
        (pss_one (ps_expr (pe_bm PySem.F.plainAttrs_list PySem.F.slot_list_extend PySem.F.type_list_extend mt_extend (pv 5) (pa_cons (pe_call (ok_put_number T) (hr.mono (by decide)) (by rfl) T.g_put_number T.F_put_number.kp T.b_put_number .nil pass0 (pa_cons (pv 6) pa_nil)) pa_nil)))))
      (pss_one (ps_ret (pe_call (ok_make_sector T) (hr.mono (by decide)) (by rfl) T.g_make_sector T.F_make_sector.kp T.b_make_sector .nil pass0 (pa_cons (pe_glob (v := .int 2) (by rfl) T.c_PART_KIND ⟨_, rfl⟩) (pa_cons (pe_op op_cat (pv 5) (pe_slice sl_list (pv 4) (po_some (pe_op op_mul (pe_glob (v := .int 40) (by rfl) T.c_PIECE ⟨_, rfl⟩) (pv 3))) (po_some (pe_op op_mul (pe_glob (v := .int 40) (by rfl) T.c_PIECE ⟨_, rfl⟩) (pe_op op_add (pv 3) pe_int))))) pa_nil))))))), ?_⟩
    have hok := part_ok hg hb hr' hrow hk
    refine ⟨Nat.zero_le _, fun po hpo => ?_⟩
    have s1 := same_upd (o := .lst []) hpo
    have eo : (upd H po (.lst [])) po = some (.lst []) := upd_same
    generalize upd H po (.lst []) = H1 at s1 eo
    have hS1 := s1.seq hS
    refine ⟨_, rfl, _, rfl, _, rfl, _, rfl, _, rfl, a, row, rfl, hS1, (by show 5 ≤ sizeLine; decide), fun pt hpt => ?_⟩
    have h5 : [g, b, r, k, pc row.length].length = 5 := rfl
    have hlt : ∀ n ∈ [g, b, r, k, pc row.length], n < 2097152 := by
      intro n hn
      obtain ⟨h1, h2, h3, h4, h6, _⟩ := hok
      simp only [List.mem_cons, List.not_mem_nil, or_false] at hn
      omega
    have hpay : scB (partOf g b r row k) = sec (secBody 2 ([g, b, r, k, pc row.length].flatMap enc ++ (row.drop (40 * k)).take 40)) := rfl
    have hlen := ptP_len hok
    unfold ptP at hlen
    have ev : [V.int (g : Int), .int (b : Int), .int (r : Int), .int (k : Int), .int (pc row.length : Int)] = [g, b, r, k, pc row.length].map fun (n : Nat) => V.int (n : Int) := rfl
    rw [ev]
    generalize [g, b, r, k, pc row.length] = ns at h5 hlt hpay hlen
    have et : (upd H1 pt (.tup (ns.map fun (n : Nat) => V.int (n : Int)))) pt = some (.tup (ns.map fun (n : Nat) => V.int (n : Int))) := upd_same
    have s2 := s1.trans (same_upd (o := .tup (ns.map fun (n : Nat) => V.int (n : Int))) hpt)
    have eo2 := same_upd (o := .tup (ns.map fun (n : Nat) => V.int (n : Int))) hpt _ _ eo
    generalize upd H1 pt (.tup (ns.map fun (n : Nat) => V.int (n : Int))) = H2 at et s2 eo2
    refine ⟨pt, rfl, ⟨_, sqt et⟩, for_tup (K := K) (a := pt) (xs := ns.map fun (n : Nat) => V.int (n : Int)) (fun i σ G => ∃ x6 : Option V, σ = [some (.int (g : Int)), some (.int (b : Int)), some (.int (r : Int)), some (.int (k : Int)), some (.ref a), some (.ref po), x6] ∧ Same H G ∧ G pt = some (.tup (ns.map fun (n : Nat) => V.int (n : Int))) ∧ G po = some (.lst (((ns.take i).flatMap enc).map V.int))) ⟨none, rfl, s2, et, eo2⟩ (fun i σ G _ h => by obtain ⟨_, _, _, h, _⟩ := h; exact sqt h) ?_ ?_⟩
    · rintro i v σ G hx ⟨x6, rfl, s3, e3, eo3⟩
      obtain ⟨n, hn, rfl⟩ := map_at hx
      have hi : i < ns.length := (List.getElem?_eq_some_iff.mp hn).1
      have hnn : ns[i] = n := by rw [List.getElem?_eq_getElem hi] at hn; exact Option.some.inj hn
      have hle := flat_le ns ((row.drop (40 * k)).take 40) i
      have he := enc3 (hlt n (List.mem_of_getElem? hn))
      refine ⟨_, rfl, .inl ⟨rfl, _, sql eo3⟩, _, rfl, n, rfl, lim3 (hlt n (List.mem_of_getElem? hn)), fun pb G2 _ s4 e4 => ?_⟩
      refine ⟨po, pb, _, _, rfl, rfl, s4 _ _ eo3, e4, sz (by rw [List.length_map, List.length_map]; omega), ?_⟩
      refine ⟨_, rfl, same_put (s3.trans s4) hpo, ?_, ?_⟩
      · rw [upd_ne (fun z => by rw [z, eo3] at e3; cases e3)]
        exact s4 _ _ e3
      · rw [upd_same, List.take_succ_eq_append_getElem hi, hnn, List.flatMap_append, List.map_append]
        simp [List.flatMap]
    · rintro σ G ⟨x6, rfl, s3, e3, eo3⟩
      rw [List.length_map, List.take_length] at eo3
      have eA : (40 : Int) * (k : Int) = ((40 * k : Nat) : Int) := by omega
      have eB : (40 : Int) * ((k : Int) + 1) = ((40 * k + 40 : Nat) : Int) := by omega
      refine ⟨_, rfl, _, rfl, _, rfl, _, _, rfl, rfl, .inl ⟨by decide, by decide⟩, _, rfl, _, rfl, _, _, rfl, rfl, _, _, rfl, rfl, .inl ⟨by decide, by decide⟩, _, rfl, a, _, rfl, s3.seq hS, fun pc' hpc => ?_⟩
      rw [cut_ints row eA eB, show 40 * k + 40 - 40 * k = 40 by omega]
      have s4 := same_upd (o := .lst (((row.drop (40 * k)).take 40).map V.int)) hpc
      refine ⟨po, pc', _, _, rfl, rfl, s4 _ _ eo3, upd_same, sz (by rw [List.length_map, List.length_map, ← List.length_append]; omega), fun pl hpl => ?_⟩
      rw [← List.map_append]
      have s5 := (s3.trans s4).trans (same_upd (o := .lst ((ns.flatMap enc ++ (row.drop (40 * k)).take 40).map V.int)) hpl)
      refine ⟨pl, 2, _, rfl, sql upd_same, by omega, fun p H' _ s6 e6 => q p H' (s5.trans s6) ?_⟩
      rw [hpay]
      exact e6
theorem ok__part_writes (T : TX K mg) : FnOk P w K mg base CX0 4 T.a__part_writes T.d__part_writes ["rows", "at", "generation", "boot", "record"] (sp_pw K) := by
  refine T.F__part_writes.ok sc__part_writes (fun vs H Q E h => ?_) (fun cdv A outer s H vs Q E hr h => ?_)
  · obtain ⟨a, xs, rows, n, g, b, r, rfl, _⟩ := h
    rfl
  · obtain ⟨a, xs, rows, n, g, b, r, rfl, hS, hR, hok, hg, hb, hrl, hlen, q⟩ := h
    refine ⟨_, (pss_cons (ps_set (i := 5) sc__part_writes.nd rfl (Or.inl rfl) (pe_lst pa_nil))
      (pss_cons (ps_for PassesOwn.never rfl (pi_list (pv 0)) (pg_name (i := 6) sc__part_writes.nd rfl (Or.inl rfl))
        (pss_cons (ps_for PassesOwn.never rfl (pi_range1 (by rfl) T.n_range (pa_cons (pe_call (ok__piece_count T) (hr.mono (by decide)) (by rfl) T.g__piece_count T.F__piece_count.kp T.b__piece_count .nil pass0 (pa_cons (pv 6) pa_nil)) pa_nil)) (pg_name (i := 7) sc__part_writes.nd rfl (Or.inl rfl))
          (pss_cons (ps_expr (pe_bm PySem.F.plainAttrs_list PySem.F.slot_list_append PySem.F.type_list_append mt_append (pv 5) (pa_cons (pe_tup (pa_cons pe_str (pa_cons (pv 1) (pa_cons (pe_call (ok__part_sector T) (hr.mono (by decide)) (by rfl) T.g__part_sector T.F__part_sector.kp T.b__part_sector .nil pass0 (pa_cons (pv 2) (pa_cons (pv 3) (pa_cons (pv 4) (pa_cons (pv 7) (pa_cons (pv 6) pa_nil)))))) pa_nil)))) pa_nil)))
          (pss_one (ps_aug (i := 1) sc__part_writes.nd rfl (Or.inl rfl) pe_int ip_add))))
        (pss_one (ps_aug (i := 4) sc__part_writes.nd rfl (Or.inl rfl) pe_int ip_add))))
      (pss_one (ps_ret (pv 5))))), ?_⟩
    refine ⟨Nat.zero_le _, fun po hpo => ?_⟩
    have s1 := same_upd (o := .lst []) hpo
    have eo : (upd H po (.lst [])) po = some (.lst []) := upd_same
    generalize upd H po (.lst []) = H1 at s1 eo
    have hl2 : ∀ i, (allParts g b r (rows.take i)).length ≤ (allParts g b r rows).length := fun i => by
      conv => rhs; rw [← List.take_append_drop i rows, allParts_app]
      rw [List.length_append]
      omega
    refine ⟨_, rfl, a, rfl, ⟨_, s1.seq hS⟩, for_list (K := K) (a := a) (xs := xs) (fun i σ G => ∃ (ws : List V) (x6 x7 : Option V), σ = [some (.ref a), some (.int ((n + (allParts g b r (rows.take i)).length : Nat) : Int)), some (.int (g : Int)), some (.int (b : Int)), some (.int ((r + i : Nat) : Int)), some (.ref po), x6, x7] ∧ Same H G ∧ G po = some (.lst ws) ∧ WrA K G ws n (allParts g b r (rows.take i))) ⟨[], none, none, rfl, s1, eo, .nil n⟩ (fun i σ G _ h => by obtain ⟨_, _, _, _, h, _⟩ := h; exact h.seq hS) ?_ ?_⟩
    · rintro i v σ G hx ⟨ws, x6, x7, rfl, s2, eo2, hw⟩
      have hi : i < rows.length := by rw [← hR.1]; exact (List.getElem?_eq_some_iff.mp hx).1
      have hrow : rows[i]? = some rows[i] := List.getElem?_eq_getElem hi
      obtain ⟨p, hp, hpS⟩ := hR.2 i _ hrow
      obtain rfl : v = .ref p := by rw [hp] at hx; exact (Option.some.inj hx).symm
      have hrok := hok _ (List.mem_of_getElem? hrow)
      have htk := allParts_take g b r hrow
      have hl3 := hl2 (i + 1)
      generalize rows[i] = row at hrow hpS hrok htk
      rw [htk, List.length_append] at hl3
      have hpl : (partsOf g b (r + i) row).length = pc row.length := by unfold partsOf; rw [List.length_map, List.length_range]
      rw [hpl] at hl3
      refine ⟨_, rfl, p, row, rfl, s2.seq hpS, _, rfl, by omega, by omega, ?_⟩
      refine for_range (lo := 0) (n := _) (fun k σ G => ∃ (ws : List V) (x7 : Option V), σ = [some (.ref a), some (.int ((n + (allParts g b r (rows.take i)).length + k : Nat) : Int)), some (.int (g : Int)), some (.int (b : Int)), some (.int ((r + i : Nat) : Int)), some (.ref po), some (.ref p), x7] ∧ Same H G ∧ G po = some (.lst ws) ∧ WrA K G ws n (allParts g b r (rows.take i) ++ (List.range k).map (partOf g b (r + i) row))) ⟨ws, x7, rfl, s2, eo2, by rw [List.range_zero, List.map_nil, List.append_nil]; exact hw⟩ ?_ ?_
      · rintro k σ G3 hk ⟨ws, x7, rfl, s3, eo3, hw3⟩
        have hk2 : k < pc row.length := by omega
        have k0 : (0 : Int) + (k : Int) = (k : Int) := by omega
        have hwl := hw3.l
        rw [List.length_append, List.length_map, List.length_range] at hwl
        refine ⟨_, rfl, .inl ⟨rfl, _, sql eo3⟩, _, rfl, _, rfl, _, rfl, _, rfl, _, rfl, _, rfl, p, g, b, r + i, k, row, congrArg (fun z => [V.int (g : Int), V.int (b : Int), V.int ((r + i : Nat) : Int), V.int z, V.ref p]) k0, s3.seq hpS, hg, hb, by omega, hrok, hk2, fun ps G4 s4 e4 => ?_⟩
        refine ⟨(by show 3 ≤ sizeLine; decide), fun pw hpw => ?_⟩
        have s5 := s4.trans (same_upd (o := .tup [.str "write", .int ((n + (allParts g b r (rows.take i)).length + k : Nat) : Int), .ref ps]) hpw)
        have hWr : WrV K (upd G4 pw (.tup [.str "write", .int ((n + (allParts g b r (rows.take i)).length + k : Nat) : Int), .ref ps])) (.ref pw) (n + (allParts g b r (rows.take i) ++ (List.range k).map (partOf g b (r + i) row)).length) (partOf g b (r + i) row k) := by
          refine ⟨pw, ps, rfl, ?_, sqt (same_upd hpw _ _ e4)⟩
          rw [List.length_append, List.length_map, List.length_range, ← Nat.add_assoc]
          exact sqt upd_same
        have eo5 := s5 _ _ eo3
        have hw5 := hw3.same s5
        generalize upd G4 pw (.tup [.str "write", .int ((n + (allParts g b r (rows.take i)).length + k : Nat) : Int), .ref ps]) = G5 at s5 hWr eo5 hw5
        refine ⟨po, _, _, rfl, rfl, eo5, szl (by omega), ?_⟩
        refine ⟨_, rfl, _, _, rfl, rfl, ?_⟩
        refine ⟨ws ++ [.ref pw], some (.int (0 + (k : Int))), ?_, same_put (s3.trans s5) hpo, upd_same, ?_⟩
        · exact congrArg (fun z => [some (V.ref a), some (V.int z), some (V.int (g : Int)), some (V.int (b : Int)), some (V.int ((r + i : Nat) : Int)), some (V.ref po), some (V.ref p), some (V.int (0 + (k : Int)))]) (show ((n + (allParts g b r (rows.take i)).length + k : Nat) : Int) + 1 = ((n + (allParts g b r (rows.take i)).length + (k + 1) : Nat) : Int) by omega)
        · rw [List.range_succ, List.map_append, ← List.append_assoc]
          exact WrA.put eo5 (hw5.app (.one hWr))
      · rintro σ G3 ⟨ws, x7, rfl, s3, eo3, hw3⟩
        rw [Int.toNat_natCast] at hw3 ⊢
        have hw4 : WrA K G3 ws n (allParts g b r (rows.take (i + 1))) := by rw [htk]; exact hw3
        have hl4 : (allParts g b r (rows.take (i + 1))).length = (allParts g b r (rows.take i)).length + pc row.length := by rw [htk, List.length_append, hpl]
        refine ⟨_, rfl, _, _, rfl, rfl, ?_⟩
        refine ⟨ws, some (.ref p), x7, ?_, s3, eo3, hw4⟩
        rw [hl4, ← Nat.add_assoc]
        rfl
    · rintro σ G ⟨ws, x6, x7, rfl, s2, eo2, hw⟩
      rw [show xs.length = rows.length from hR.1, List.take_length] at hw
      exact ⟨_, rfl, q po ws G hpo s2 eo2 hw⟩
theorem ok_parts_needed (T : TX K mg) : FnOk P w K mg base CX0 25 T.a_parts_needed T.d_parts_needed ["record"] (sp_pneed K) := by
  refine T.F_parts_needed.ok sc_parts_needed (fun vs H Q E h => ?_) (fun cdv A outer s H vs Q E hr h => ?_)
  · obtain ⟨v, d, rfl, _⟩ := h
    rfl
  · obtain ⟨v, d, rfl, hd, hok, hl, q⟩ := h
    refine ⟨_, (pss_one (ps_ret (pe_call (ok__piece_count T) (hr.mono (by decide)) (by rfl) T.g__piece_count T.F__piece_count.kp T.b__piece_count .nil pass0 (pa_cons (pe_call (ok_pack T) (hr.mono (by decide)) (by rfl) T.g_pack T.F_pack.kp T.b_pack .nil passL (pa_cons (pv 0) pa_nil)) pa_nil)))), ?_⟩
    exact ⟨_, rfl, v, d, rfl, hd, okV_fits 20 d hok, fun _ => ⟨hl, fun p H' _ s1 e1 => ⟨p, pkL d, rfl, sql e1, q H' s1⟩⟩, fun z => by rw [hok] at z; cases z⟩
end
theorem putF_le {f : Str} {v : V} {fs : List (Str × V)} {n : Nat} (h : fs.length ≤ n) : (putF f v fs).length ≤ n + 1 := by
  induction fs generalizing n with
  | nil => simp [putF]
  | cons p r ih =>
    unfold putF
    split
    · simp only [List.length_cons] at h ⊢
      omega
    · simp only [List.length_cons] at h ⊢
      have := ih (n := n - 1) (by omega)
      omega
theorem putF_lt {fs : List (Str × V)} {n : Nat} (h : fs.length ≤ n) (g : n < 1000) : fs.length < 1000 := by omega
/-! frames: what is no list and no instance stands -/
def mutK : HO → Bool
  | .lst _ => true
  | .ins .. => true
  | _ => false
def FT (H H' : Hp) : Prop := ∀ x o, H x = some o → mutK o = false → H' x = some o
theorem FT.refl (H : Hp) : FT H H := fun _ _ h _ => h
theorem FT.trans {G H J : Hp} (a : FT G H) (b : FT H J) : FT G J := fun x o h n => b x o (a x o h n) n
theorem FT.same {H J : Hp} (a : Same H J) : FT H J := fun x o h _ => a x o h
theorem FT.up {H : Hp} {a : Addr} {o u : HO} (h : H a = some o) (i : mutK o = true) : FT H (upd H a u) := fun x w hx n => by
  rw [upd_ne (fun z => by rw [z, h] at hx; cases hx; rw [i] at n; cases n)]
  exact hx
theorem sqt_ft {K : PySem.W.Frag} {H H' : Hp} {a : Addr} {xs : List V} (f : FT H H') (h : SqT K H a xs) : SqT K H' a xs := by
  rcases h with (h | ⟨o, h⟩) | h
  · exact .inl (.inl (f _ _ h rfl))
  · exact .inl (.inr ⟨o, f _ _ h rfl⟩)
  · exact .inr h
mutual
theorem dp_ft {K : PySem.W.Frag} {H H' : Hp} (f : FT H H') : ∀ (n : Nat) (d : PyData) {v : V}, okV n d = true → Dp K H v d → Dp K H' v d
  | _, _, _, _, .non => .non
  | _, _, _, _, .bl b => .bl b
  | _, _, _, _, .int i => .int i
  | _, _, _, _, .str x => .str x
  | n, .list ds, _, o, .lst h a => by rw [okV_lst] at o; cases o
  | 0, .tuple ds, _, o, .tup h a => by rw [okV_tup0] at o; cases o
  | n + 1, .tuple ds, _, o, .tup h a => .tup (sqt_ft f h) (dpa_ft f n ds (by rw [okV_tup, Bool.and_eq_true] at o; exact o.2) a)
theorem dpa_ft {K : PySem.W.Frag} {H H' : Hp} (f : FT H H') : ∀ (n : Nat) (ds : List PyData) {vs : List V}, okA n ds = true → DpAll K H vs ds → DpAll K H' vs ds
  | _, [], _, _, .nil => .nil
  | n, d :: ds, _, o, .cons h a => by
    simp only [okA, Bool.and_eq_true] at o
    exact .cons (dp_ft f n d o.1 h) (dpa_ft f n ds o.2 a)
end
theorem Sv.ft {K : PySem.W.Frag} {H H' : Hp} {v : V} {s : Sc} (f : FT H H') (h : Sv K H v s) : Sv K H' v s := by
  obtain ⟨p, rfl, h⟩ := h
  exact ⟨p, rfl, sqt_ft f h⟩
theorem SvA.ft {K : PySem.W.Frag} {H H' : Hp} {vs : List V} {D : List Sc} (f : FT H H') (h : SvA K H vs D) : SvA K H' vs D :=
  ⟨h.l, fun i s hs => by obtain ⟨v, hv, g⟩ := h.a i s hs; exact ⟨v, hv, g.ft f⟩, h.o⟩
theorem WrA.ft {K : PySem.W.Frag} {H H' : Hp} {ws : List V} {n : Nat} {ss : List Sc} (f : FT H H') (h : WrA K H ws n ss) : WrA K H' ws n ss :=
  ⟨h.l, fun i s hs => by obtain ⟨v, hv, p, q, rfl, h1, h2⟩ := h.a i s hs; exact ⟨_, hv, p, q, rfl, sqt_ft f h1, sqt_ft f h2⟩⟩
/-- all but these stand as they stood -/
def Fr (L : List Addr) (H H' : Hp) : Prop := ∀ x o, H x = some o → x ∉ L → H' x = some o
theorem Fr.refl (L : List Addr) (H : Hp) : Fr L H H := fun _ _ h _ => h
theorem Fr.trans {L : List Addr} {H H' H2 : Hp} (h : Fr L H H') (g : Fr L H' H2) : Fr L H H2 := fun x o e n => g x o (h x o e n) n
theorem Fr.same {L : List Addr} {H H' : Hp} (h : Same H H') : Fr L H H' := fun x o e _ => h x o e
theorem Fr.up {L : List Addr} {H H' : Hp} {a : Addr} {o : HO} (h : Fr L H H') (ha : a ∈ L) : Fr L H (upd H' a o) := fun x u e n => by
  rw [upd_ne (fun z => n (by rw [z]; exact ha))]
  exact h x u e n
theorem Fr.new {L : List Addr} {H H' : Hp} {a : Addr} {o : HO} (h : Fr L H H') (ha : H a = none) : Fr L H (upd H' a o) := fun x u e n => by
  rw [upd_ne (fun z => by rw [z, ha] at e; cases e)]
  exact h x u e n
theorem Fr.mono {L M : List Addr} {H H' : Hp} (h : Fr L H H') (hm : ∀ x ∈ L, x ∈ M) : Fr M H H' := fun x u e n => h x u e fun z => n (hm x z)
theorem sql_fr1 {K : PySem.W.Frag} {L : List Addr} {H H' : Hp} {a : Addr} {xs : List V} (f : Fr L H H') (n : a ∉ L) (h : SqL K H a xs) : SqL K H' a xs := by
  rcases h with (h | ⟨o, h⟩) | h
  · exact .inl (.inl (f _ _ h n))
  · exact .inl (.inr ⟨o, f _ _ h n⟩)
  · exact .inr h
/-! a journal -/
structure JS where
  boot : Nat
  gen : Nat
  start : Nat
  used : Nat
  recs : List PyData
def GoodD (d : PyData) : Prop := okV 20 d = true ∧ (pkL d).length ≤ 40000
def flJ (j : JS) (l : Addr) : List (Str × V) := fl_Journal (.int (j.boot : Int)) (.int (j.gen : Int)) (.int (j.start : Int)) (.int (j.used : Int)) (.ref l)
structure JAt (C : Addr) (K : PySem.W.Frag) (H : Hp) (p l : Addr) (j : JS) : Prop where
  ob : ∃ dx, H p = some (.ins C dx (flJ j l))
  rl : ∃ vs, H l = some (.lst vs) ∧ DpAll K H vs j.recs
  g : ∀ d ∈ j.recs, GoodD d
theorem okA_all {n : Nat} : ∀ {ds : List PyData}, (∀ d ∈ ds, okV n d = true) → okA n ds = true
  | [], _ => rfl
  | d :: ds, h => by simp only [okA, Bool.and_eq_true]; exact ⟨h d (by simp), okA_all fun e he => h e (by simp [he])⟩
theorem dpa_good {K : PySem.W.Frag} {H H' : Hp} {vs : List V} {ds : List PyData} (f : FT H H') (g : ∀ d ∈ ds, GoodD d) (h : DpAll K H vs ds) : DpAll K H' vs ds := dpa_ft f 20 ds (okA_all fun d hd => (g d hd).1) h
theorem JAt.fr {C : Addr} {K : PySem.W.Frag} {H H' : Hp} {p l : Addr} {j : JS} {L : List Addr} (h : JAt C K H p l j) (f : Fr L H H') (t : FT H H') (hp : p ∉ L) (hl : l ∉ L) : JAt C K H' p l j := by
  obtain ⟨⟨dx, h1⟩, ⟨vs, h2, h3⟩, h4⟩ := h
  exact ⟨⟨dx, f _ _ h1 hp⟩, ⟨vs, f _ _ h2 hl, dpa_good t h4 h3⟩, h4⟩
theorem JAt.ne {C : Addr} {K : PySem.W.Frag} {H : Hp} {p l : Addr} {j : JS} (h : JAt C K H p l j) : p ≠ l := fun z => by
  obtain ⟨⟨dx, h1⟩, ⟨vs, h2, _⟩, _⟩ := h
  rw [z, h2] at h1
  cases h1
inductive Reads (D : List Sc) (gen start : Nat) : Nat → Nat → Nat → List PyData → Nat → Prop
  | nil {u i b : Nat} : rdRec D (start + u) gen i b = none → Reads D gen start u i b [] u
  | cons {u i b b' u' : Nat} {d : PyData} {ds : List PyData} : rdRec D (start + u) gen i b = some (b', pkL d) → GoodD d → Reads D gen start (u + pc (pkL d).length) (i + 1) b' ds u' → Reads D gen start u i b (d :: ds) u'
def FoundV (l : Addr) (G : Hp) (x : V) : Option (Nat × List Int) → Prop
  | none => x = .non
  | some (b, row) => ∃ pf lr, x = .ref pf ∧ G pf = some (.tup [.int (b : Int), .ref lr]) ∧ G lr = some (.lst (row.map V.int)) ∧ lr ≠ l
theorem rrec_use {K : PySem.W.Frag} {vs : List V} {H : Hp} {Q : VK} {E : XK} {a l : Addr} {xs : List V} {D : List Sc} {i g r least : Nat} (hv : vs = [.ref a, .int (i : Int), .int (g : Int), .int (r : Int), .int (least : Int)]) (hS : SqL K H a xs) (hD : SvA K H xs D) (hl : ∃ o, H l = some o)
    (k : ∀ x H', Same H H' → FoundV l H' x (rdRec D i g r least) → Q x H') : sp_rrec K vs H Q E := by
  refine ⟨a, xs, D, i, g, r, least, hv, hS, hD, ?_⟩
  cases e : rdRec D i g r least with
  | none => exact fun H' s => k .non H' s (by rw [e]; rfl)
  | some br =>
    obtain ⟨b, row⟩ := br
    intro p lr H' s e1 e2 e3
    refine k _ H' s ?_
    rw [e]
    exact ⟨p, lr, rfl, e1, e2, fun z => by obtain ⟨o, hl⟩ := hl; rw [← z, e3] at hl; cases hl⟩
theorem args5 {a : Addr} {x x' g r r' b : Int} (h1 : x = x') (h2 : r = r') : [V.ref a, V.int x, V.int g, V.int r, V.int b] = [V.ref a, V.int x', V.int g, V.int r', V.int b] := by rw [h1, h2]
def sp_rrecs (C : Addr) (K : PySem.W.Frag) : Sp := fun vs H Q _ => ∃ (p l a : Addr) (xs : List V) (D : List Sc) (j : JS) (least u : Nat) (ds : List PyData), vs = [.ref p, .ref a, .int (least : Int)] ∧ JAt C K H p l j ∧ H a = some (.lst xs) ∧ a ≠ l ∧ SvA K H xs D ∧ j.recs = [] ∧ j.used = 0 ∧ Reads D j.gen j.start j.used 0 least ds u ∧ ds.length ≤ 2000 ∧
  ∀ H', Fr [p, l] H H' → FT H H' → JAt C K H' p l { j with used := u, recs := ds } → Q .non H'
def sp_jinit (C : Addr) (K : PySem.W.Frag) : Sp := fun vs H Q _ => ∃ (p a dx : Addr) (xs : List V) (D : List Sc) (boot u : Nat) (ds : List PyData), vs = [.ref p, .ref a, .int (boot : Int)] ∧ H p = some (.ins C dx []) ∧ H a = some (.lst xs) ∧ SvA K H xs D ∧ (∀ i, i < 2 → isHd (scAt D i)) ∧ Reads D (nwF D 2).1 (nwF D 2).2.1 0 0 (nwF D 2).2.2 ds u ∧ ds.length ≤ 2000 ∧
  ∀ l H', H l = none → Fr [p] H H' → FT H H' → JAt C K H' p l ⟨boot, (nwF D 2).1, (nwF D 2).2.1, u, ds⟩ → Q .non H'
def sp_jrecs (C : Addr) (K : PySem.W.Frag) : Sp := fun vs H Q _ => ∃ (p l : Addr) (j : JS), vs = [.ref p] ∧ JAt C K H p l j ∧ ∀ q vs H', H q = none → Same H H' → H' q = some (.lst vs) → DpAll K H' vs j.recs → Q (.ref q) H'
def sp_jused (C : Addr) (K : PySem.W.Frag) : Sp := fun vs H Q _ => ∃ (p l : Addr) (j : JS), vs = [.ref p] ∧ JAt C K H p l j ∧ Q (.int (j.used : Int)) H
section
variable {P : Program} {w : World} {K : PySem.W.Frag} {mg : Str → Option Value} {base : Heap}
theorem ok_Journal_records (T : TX K mg) : FnOk P w K mg base CX0 1 T.a_Journal_records T.d_Journal_records ["self"] (sp_jrecs T.a_Journal K) := by
  refine T.F_Journal_records.ok sc_Journal_records (fun vs H Q E h => ?_) (fun cdv A outer s H vs Q E hr h => ?_)
  · obtain ⟨p, l, j, rfl, _⟩ := h
    rfl
  · obtain ⟨p, l, j, rfl, hJ, q⟩ := h
    refine ⟨_, (pss_one (ps_ret (pe_callTy call_list_of (by rfl) T.n_list (by decide +kernel) (pa_cons (pe_fld (pv 0) rfl) pa_nil)))), ?_⟩
    obtain ⟨dx, ob⟩ := hJ.ob
    obtain ⟨vs, hl, hd⟩ := hJ.rl
    exact ⟨_, rfl, p, T.a_Journal, dx, _, _, rfl, ob, T.K_Journal, T.na_Journal__records, fl_Journal__records, l, vs, rfl, .inl (sql hl), fun r hr => q r vs _ hr (same_upd hr) upd_same (dpa_same (same_upd hr) _ hd)⟩
theorem ok_Journal__read_records (T : TX K mg) : FnOk P w K mg base CX0 45 T.a_Journal__read_records T.d_Journal__read_records ["self", "sectors", "least_boot"] (sp_rrecs T.a_Journal K) := by
  refine T.F_Journal__read_records.ok sc_Journal__read_records (fun vs H Q E h => ?_) (fun cdv A outer s H vs Q E hr h => ?_)
  · obtain ⟨p, l, a, xs, D, j, least, u, ds, rfl, _⟩ := h
    rfl
  · obtain ⟨p, l, a, xs, D, j, least, u, ds, rfl, hJ, hS, hal, hD, hj0, hu0, hR, hlen, q⟩ := h
    refine ⟨_, (pss_cons (ps_set (i := 3) sc_Journal__read_records.nd rfl (Or.inl rfl) (pe_call (ok__read_record T) (hr.mono (by decide)) (by rfl) T.g__read_record T.F__read_record.kp T.b__read_record .nil pass0 (pa_cons (pv 1) (pa_cons (pe_fld (pv 0) rfl) (pa_cons (pe_fld (pv 0) rfl) (pa_cons pe_int (pa_cons (pv 2) pa_nil)))))))
      (pss_one (ps_while PassesOwn.never (pt_cmpR op_notN (pv 3) pe_non (nomark _))
        (pss_cons (ps_asg (pv 3) (pg_tup (by rfl) (pgs_cons (pg_name (i := 2) sc_Journal__read_records.nd rfl (Or.inl rfl)) (pgs_cons (pg_name (i := 4) sc_Journal__read_records.nd rfl (Or.inl rfl)) pgs_nil))))
        (pss_cons (ps_expr (pe_bm PySem.F.plainAttrs_list PySem.F.slot_list_append PySem.F.type_list_append mt_append (pe_fld (pv 0) rfl) (pa_cons (pe_call (ok_unpack T) (hr.mono (by decide)) (by rfl) T.g_unpack T.F_unpack.kp T.b_unpack .nil passL (pa_cons (pv 4) pa_nil)) pa_nil)))
        (pss_cons (ps_fldaug (pv 0) (pe_call (ok__piece_count T) (hr.mono (by decide)) (by rfl) T.g__piece_count T.F__piece_count.kp T.b__piece_count .nil pass0 (pa_cons (pv 4) pa_nil)) in_add)
        (pss_cons (ps_set (i := 5) sc_Journal__read_records.nd rfl (Or.inl rfl) (pe_op op_add (pe_fld (pv 0) rfl) (pe_fld (pv 0) rfl)))
        (pss_one (ps_set (i := 3) sc_Journal__read_records.nd rfl (Or.inl rfl) (pe_call (ok__read_record T) (hr.mono (by decide)) (by rfl) T.g__read_record T.F__read_record.kp T.b__read_record .nil pass0 (pa_cons (pv 1) (pa_cons (pv 5) (pa_cons (pe_fld (pv 0) rfl) (pa_cons (pe_callB call_len_seq (by rfl) T.n_len PySem.boot_len (pa_cons (pe_fld (pv 0) rfl) pa_nil)) (pa_cons (pv 2) pa_nil))))))))))))))), ?_⟩
    obtain ⟨boot, gen, start, used, recs⟩ := j
    dsimp only at hj0 hu0 hR q
    subst hj0 hu0
    obtain ⟨⟨dx, ob⟩, ⟨vs0, rl, rd0⟩, _⟩ := hJ
    cases rd0
    have ob : H p = some (.ins T.a_Journal dx (fl_Journal (.int (boot : Int)) (.int (gen : Int)) (.int (start : Int)) (.int ((0 : Nat) : Int)) (.ref l))) := ob
    have npl : p ≠ l := fun z => by rw [z, rl] at ob; cases ob
    have nap : a ≠ p := fun z => by rw [z, ob] at hS; cases hS
    refine ⟨_, rfl, _, rfl, p, T.a_Journal, dx, _, _, rfl, ob, T.K_Journal, T.na_Journal__start, fl_Journal__start, _, rfl, p, T.a_Journal, dx, _, _, rfl, ob, T.K_Journal, T.na_Journal__generation, fl_Journal__generation, _, rfl, ?_⟩
    dsimp only [tNil]
    refine rrec_use (i := start) (g := gen) (r := 0) (least := least) (l := l) (by rfl) (sql hS) hD ⟨_, rl⟩ fun x H1 s1 hf => ?_
    refine while_by (fun σ G => ∃ (done rest : List PyData) (vs : List V) (b u' : Nat) (x3 : V) (x4 x5 : Option V), σ = [some (.ref p), some (.ref a), some (.int (b : Int)), some x3, x4, x5] ∧ Fr [p, l] H G ∧ FT H G ∧ G p = some (.ins T.a_Journal dx (fl_Journal (.int (boot : Int)) (.int (gen : Int)) (.int (start : Int)) (.int (u' : Int)) (.ref l))) ∧ G l = some (.lst vs) ∧ DpAll K G vs done ∧ (∀ d ∈ done, GoodD d) ∧ done ++ rest = ds ∧ Reads D gen start u' done.length b rest u ∧ FoundV l G x3 (rdRec D (start + u') gen done.length b))
      (fun _ G => match G l with | some (.lst vs) => ds.length + 1 - vs.length | _ => 0)
      ⟨[], ds, [], least, 0, x, none, none, rfl, Fr.same s1, FT.same s1, s1 _ _ ob, s1 _ _ rl, .nil, (fun d hd => by cases hd), rfl, hR, hf⟩ ?_ (fun σ H Q Q' hq ⟨v, h1, h2, b, h3, h4⟩ => ⟨v, h1, h2, b, h3, hq _ _ h4⟩)
    rintro σ G ⟨done, rest, vs, b, u', x3, x4, x5, rfl, fr, ft, oG, lG, hdp, hgood, hdr, hRd, hF⟩
    have haG : G a = some (.lst xs) := fr _ _ hS (by simp [nap, hal])
    have hDG := hD.ft ft
    have hvl := dpa_len hdp
    cases hRd with
    | nil hnone =>
      rw [hnone] at hF
      obtain rfl : x3 = .non := hF
      rw [List.append_nil] at hdr
      subst hdr
      refine ⟨_, rfl, rfl, _, rfl, ?_⟩
      rw [decide_eq_true rfl]
      refine ifbf rfl ?_
      exact q G fr ft ⟨⟨dx, oG⟩, ⟨vs, lG, hdp⟩, hgood⟩
    | @cons _ _ _ b' _ d rest' hsome hgd hRd' =>
      rw [hsome] at hF
      obtain ⟨pf, lr, rfl, ef, er, nrl⟩ := hF
      have nrp : lr ≠ p := fun z => by rw [z, oG] at er; cases er
      have hdl : done.length < ds.length := by rw [← hdr, List.length_append, List.length_cons]; omega
      refine ⟨_, rfl, rfl, _, rfl, ?_⟩
      rw [decide_eq_false (by intro z; cases z)]
      refine ifbt rfl ?_
      refine ⟨_, rfl, pf, _, rfl, sqt ef, rfl, .int (b' : Int), [.ref lr], rfl, .ref lr, [], rfl, rfl, ?_⟩
      have hby := pk_bytes 20 d hgd.1
      have htv := tv_pk 20 d [] hgd.1
      rw [List.append_nil] at htv
      refine ⟨_, rfl, p, T.a_Journal, dx, _, _, rfl, oG, T.K_Journal, T.na_Journal__records, fl_Journal__records, .inl ⟨rfl, _, sql lG⟩, _, rfl, lr, pkL d, rfl, sql er, hby, by have := hgd.2; omega, ?_⟩
      rw [htv]
      dsimp only
      rw [if_neg (Nat.lt_irrefl _)]
      intro v G2 s2 hv
      have lG2 := s2 _ _ lG
      have oG2 := s2 _ _ oG
      have er2 := s2 _ _ er
      refine ⟨l, vs, v, rfl, rfl, lG2, szl (by omega), ?_⟩
      have ftu : FT G2 (upd G2 l (.lst (vs ++ [v]))) := .up lG2 rfl
      have eu : (upd G2 l (.lst (vs ++ [v]))) l = some (.lst (vs ++ [v])) := upd_same
      have hdp3 : DpAll K (upd G2 l (.lst (vs ++ [v]))) (vs ++ [v]) (done ++ [d]) := dpa_app (dpa_good (ds := done) ((FT.same s2).trans ftu) hgood hdp) (.cons (dp_ft ftu 20 d hgd.1 hv) .nil)
      have oG3 : (upd G2 l (.lst (vs ++ [v]))) p = _ := (upd_ne npl).trans oG2
      have er3 : (upd G2 l (.lst (vs ++ [v]))) lr = _ := (upd_ne nrl).trans er2
      have fr3 : Fr [p, l] H (upd G2 l (.lst (vs ++ [v]))) := (fr.trans (Fr.same s2)).up (by simp)
      have ft3 := (ft.trans (FT.same s2)).trans ftu
      generalize upd G2 l (.lst (vs ++ [v])) = G3 at ftu eu hdp3 oG3 er3 fr3 ft3
      refine ⟨_, rfl, p, T.a_Journal, dx, _, _, rfl, oG3, T.K_Journal, T.na_Journal__used, fl_Journal__used, _, rfl, lr, pkL d, rfl, sql er3, ?_⟩
      refine ⟨_, _, rfl, rfl, dx, _, oG3, (by show 5 < 1000; decide), ?_⟩
      rw [pf_Journal__used]
      have eu4 : (u' : Int) + (pc (pkL d).length : Int) = ((u' + pc (pkL d).length : Nat) : Int) := by omega
      rw [eu4]
      have oG4 : (upd G3 p (.ins T.a_Journal dx (fl_Journal (.int (boot : Int)) (.int (gen : Int)) (.int (start : Int)) (.int ((u' + pc (pkL d).length : Nat) : Int)) (.ref l)))) p = some (.ins T.a_Journal dx (fl_Journal (.int (boot : Int)) (.int (gen : Int)) (.int (start : Int)) (.int ((u' + pc (pkL d).length : Nat) : Int)) (.ref l))) := upd_same
      have ftp : FT G3 (upd G3 p (.ins T.a_Journal dx (fl_Journal (.int (boot : Int)) (.int (gen : Int)) (.int (start : Int)) (.int ((u' + pc (pkL d).length : Nat) : Int)) (.ref l)))) := .up oG3 rfl
      have fr4 : Fr [p, l] H (upd G3 p (.ins T.a_Journal dx (fl_Journal (.int (boot : Int)) (.int (gen : Int)) (.int (start : Int)) (.int ((u' + pc (pkL d).length : Nat) : Int)) (.ref l)))) := fr3.up (by simp)
      have lG4 : (upd G3 p (.ins T.a_Journal dx (fl_Journal (.int (boot : Int)) (.int (gen : Int)) (.int (start : Int)) (.int ((u' + pc (pkL d).length : Nat) : Int)) (.ref l)))) l = some (.lst (vs ++ [v])) := (upd_ne npl.symm).trans eu
      have hgood4 : ∀ e ∈ done ++ [d], GoodD e := fun e he => by
        rcases List.mem_append.mp he with h | h
        · exact hgood e h
        · rw [List.mem_singleton.mp h]; exact hgd
      have hdp4 := dpa_good ftp hgood4 hdp3
      have ft4 := ft3.trans ftp
      generalize upd G3 p (.ins T.a_Journal dx (fl_Journal (.int (boot : Int)) (.int (gen : Int)) (.int (start : Int)) (.int ((u' + pc (pkL d).length : Nat) : Int)) (.ref l))) = G4 at oG4 ftp fr4 lG4 hdp4 ft4
      refine ⟨_, rfl, p, T.a_Journal, dx, _, _, rfl, oG4, T.K_Journal, T.na_Journal__start, fl_Journal__start, _, rfl, p, T.a_Journal, dx, _, _, rfl, oG4, T.K_Journal, T.na_Journal__used, fl_Journal__used, _, _, rfl, rfl, ?_⟩
      refine ⟨_, rfl, _, rfl, _, rfl, p, T.a_Journal, dx, _, _, rfl, oG4, T.K_Journal, T.na_Journal__generation, fl_Journal__generation, _, rfl, p, T.a_Journal, dx, _, _, rfl, oG4, T.K_Journal, T.na_Journal__records, fl_Journal__records, l, _, rfl, .inl (sql lG4), _, rfl, ?_⟩
      dsimp only [tNil]
      have haG4 : G4 a = some (.lst xs) := fr4 _ _ hS (by simp [nap, hal])
      have hl1 : (((vs ++ [v]).length : Nat) : Int) = ((done.length + 1 : Nat) : Int) := by rw [List.length_append, hvl]; rfl
      refine rrec_use (i := start + (u' + pc (pkL d).length)) (g := gen) (r := done.length + 1) (least := b') (l := l) (args5 (by omega) hl1) (sql haG4) (hD.ft ft4) ⟨_, lG4⟩ fun x5' G5 s5 hf5 => ?_
      refine ⟨⟨done ++ [d], rest', vs ++ [v], b', u' + pc (pkL d).length, x5', _, _, rfl, fr4.trans (Fr.same s5), ft4.trans (FT.same s5), s5 _ _ oG4, s5 _ _ lG4, dpa_same s5 _ hdp4, hgood4, by rw [List.append_assoc]; exact hdr, ?_, ?_⟩, ?_⟩
      · rw [List.length_append]; exact hRd'
      · rw [List.length_append]; exact hf5
      · have e6 := s5 _ _ lG4
        rw [e6, lG]
        dsimp only
        rw [List.length_append]
        simp only [List.length_cons, List.length_nil]
        omega
theorem ok_Journal___init__ (T : TX K mg) : FnOk P w K mg base CX0 46 T.a_Journal___init__ T.d_Journal___init__ ["self", "sectors", "boot"] (sp_jinit T.a_Journal K) := by
  refine T.F_Journal___init__.ok sc_Journal___init__ (fun vs H Q E h => ?_) (fun cdv A outer s H vs Q E hr h => ?_)
  · obtain ⟨p, a, dx, xs, D, boot, u, ds, rfl, _⟩ := h
    rfl
  · obtain ⟨p, a, dx, xs, D, boot, u, ds, rfl, ob, hS, hD, hhd, hR, hlen, q⟩ := h
    refine ⟨_, (pss_cons (ps_asg (pe_call (ok__newest_head T) (hr.mono (by decide)) (by rfl) T.g__newest_head T.F__newest_head.kp T.b__newest_head .nil pass0 (pa_cons (pv 1) pa_nil)) (pg_tup (by rfl) (pgs_cons (pg_name (i := 3) sc_Journal___init__.nd rfl (Or.inl rfl)) (pgs_cons (pg_name (i := 4) sc_Journal___init__.nd rfl (Or.inl rfl)) (pgs_cons (pg_name (i := 5) sc_Journal___init__.nd rfl (Or.inl rfl)) pgs_nil)))))
      (pss_cons (ps_fld (pv 0) (pv 2) rfl)
      (pss_cons (ps_fld (pv 0) (pv 3) rfl)
      (pss_cons (ps_fld (pv 0) (pv 4) rfl)
      (pss_cons (ps_fld (pv 0) pe_int rfl)
      (pss_cons (ps_fld (pv 0) (pe_lst pa_nil) rfl)
      (pss_one (ps_expr (pe_meth (pv 0) T.K_Journal T.m_Journal__read_records (ok_Journal__read_records T) (hr.mono (by decide)) T.b_Journal__read_records .nil pass0 (pa_cons (pv 1) (pa_cons (pv 5) pa_nil))))))))))), ?_⟩
    have nap : a ≠ p := fun z => by rw [z, ob] at hS; cases hS
    refine ⟨_, rfl, a, xs, D, rfl, sql hS, hD, hhd, fun pn H1 s1 hn => ?_⟩
    have ob1 := s1 _ _ ob
    refine ⟨pn, _, rfl, hn, rfl, .int ((nwF D 2).1 : Int), _, rfl, .int ((nwF D 2).2.1 : Int), _, rfl, .int ((nwF D 2).2.2 : Int), [], rfl, rfl, ?_⟩
    generalize nwF D 2 = nw at hR q
    refine ⟨_, rfl, _, rfl, p, T.a_Journal, dx, _, rfl, ob1, T.K_Journal, T.na_Journal__boot, (by show 0 < 1000; decide), ?_⟩
    refine ⟨_, rfl, _, rfl, p, T.a_Journal, dx, _, rfl, upd_same, T.K_Journal, T.na_Journal__generation, putF_lt (putF_le (Nat.le_refl 0)) (by decide), ?_⟩
    refine ⟨_, rfl, _, rfl, p, T.a_Journal, dx, _, rfl, upd_same, T.K_Journal, T.na_Journal__start, putF_lt (putF_le (putF_le (Nat.le_refl 0))) (by decide), ?_⟩
    refine ⟨_, rfl, p, T.a_Journal, dx, _, rfl, upd_same, T.K_Journal, T.na_Journal__used, putF_lt (putF_le (putF_le (putF_le (Nat.le_refl 0)))) (by decide), ?_⟩
    rw [upd_upd, upd_upd, upd_upd]
    refine ⟨Nat.zero_le _, fun l hl => ⟨_, rfl, p, T.a_Journal, dx, _, rfl, by rw [upd_ne (fun z => by rw [← z, upd_same] at hl; cases hl), upd_same], T.K_Journal, T.na_Journal__records, putF_lt (putF_le (putF_le (putF_le (putF_le (Nat.le_refl 0))))) (by decide), ?_⟩⟩
    rw [fl_Journal_new]
    have npl : p ≠ l := fun z => by rw [← z, upd_same] at hl; cases hl
    have hl1 : H1 l = none := by rw [upd_ne npl.symm] at hl; exact hl
    have fr2 : Fr [p] H (upd (upd (upd H1 p (.ins T.a_Journal dx (putF ("_used" : Str) (.int 0) (putF ("_start" : Str) (.int (nw.2.1 : Int)) (putF ("_generation" : Str) (.int (nw.1 : Int)) (putF ("_boot" : Str) (.int (boot : Int)) [])))))) l (.lst [])) p (.ins T.a_Journal dx (fl_Journal (.int (boot : Int)) (.int (nw.1 : Int)) (.int (nw.2.1 : Int)) (.int 0) (.ref l)))) := (((Fr.same s1).up (by simp)).new (none_of s1 hl1)).up (by simp)
    have ft2 : FT H (upd (upd (upd H1 p (.ins T.a_Journal dx (putF ("_used" : Str) (.int 0) (putF ("_start" : Str) (.int (nw.2.1 : Int)) (putF ("_generation" : Str) (.int (nw.1 : Int)) (putF ("_boot" : Str) (.int (boot : Int)) [])))))) l (.lst [])) p (.ins T.a_Journal dx (fl_Journal (.int (boot : Int)) (.int (nw.1 : Int)) (.int (nw.2.1 : Int)) (.int 0) (.ref l)))) := fun x o hx hm => by
      have n1 : x ≠ p := fun z => by rw [z, ob] at hx; cases hx; cases hm
      have n2 : x ≠ l := fun z => by rw [z, none_of s1 hl1] at hx; cases hx
      rw [upd_ne n1, upd_ne n2, upd_ne n1]
      exact s1 _ _ hx
    have oG : (upd (upd (upd H1 p (.ins T.a_Journal dx (putF ("_used" : Str) (.int 0) (putF ("_start" : Str) (.int (nw.2.1 : Int)) (putF ("_generation" : Str) (.int (nw.1 : Int)) (putF ("_boot" : Str) (.int (boot : Int)) [])))))) l (.lst [])) p (.ins T.a_Journal dx (fl_Journal (.int (boot : Int)) (.int (nw.1 : Int)) (.int (nw.2.1 : Int)) (.int 0) (.ref l)))) p = some (.ins T.a_Journal dx (fl_Journal (.int (boot : Int)) (.int (nw.1 : Int)) (.int (nw.2.1 : Int)) (.int 0) (.ref l))) := upd_same
    have lG : (upd (upd (upd H1 p (.ins T.a_Journal dx (putF ("_used" : Str) (.int 0) (putF ("_start" : Str) (.int (nw.2.1 : Int)) (putF ("_generation" : Str) (.int (nw.1 : Int)) (putF ("_boot" : Str) (.int (boot : Int)) [])))))) l (.lst [])) p (.ins T.a_Journal dx (fl_Journal (.int (boot : Int)) (.int (nw.1 : Int)) (.int (nw.2.1 : Int)) (.int 0) (.ref l)))) l = some (.lst []) := by rw [upd_ne npl.symm, upd_same]
    generalize upd (upd (upd H1 p (.ins T.a_Journal dx (putF ("_used" : Str) (.int 0) (putF ("_start" : Str) (.int (nw.2.1 : Int)) (putF ("_generation" : Str) (.int (nw.1 : Int)) (putF ("_boot" : Str) (.int (boot : Int)) [])))))) l (.lst [])) p (.ins T.a_Journal dx (fl_Journal (.int (boot : Int)) (.int (nw.1 : Int)) (.int (nw.2.1 : Int)) (.int 0) (.ref l))) = G at fr2 ft2 oG lG
    have hal : a ≠ l := fun z => by rw [z, none_of s1 hl1] at hS; cases hS
    refine ⟨_, rfl, p, dx, _, rfl, oG, fl_Journal_no__read_records, _, rfl, _, rfl, p, l, a, xs, D, ⟨boot, nw.1, nw.2.1, 0, []⟩, nw.2.2, u, ds, rfl, ⟨⟨dx, oG⟩, ⟨[], lG, .nil⟩, fun d hd => by cases hd⟩, fr2 _ _ hS (by simp [nap]), hal, hD.ft ft2, rfl, rfl, hR, hlen, fun H' fr ft hJ => ?_⟩
    refine q l H' (none_of s1 hl1) (fun x o hx hn => ?_) (ft2.trans ft) hJ
    have n1 : x ≠ p := by simpa using hn
    have n2 : x ≠ l := fun z => by rw [z, none_of s1 hl1] at hx; cases hx
    exact fr x o (fr2 x o hx hn) (by simp [n1, n2])
end
def SyV (K : PySem.W.Frag) (H : Hp) (v : V) : Prop := ∃ p, v = .ref p ∧ SqT K H p [.str "sync"]
def StA (K : PySem.W.Frag) (H : Hp) (us : List V) (n : Nat) (ss : List Sc) (sync : Bool) : Prop := ∃ ws, WrA K H ws n ss ∧ (match sync with | true => ∃ v, us = ws ++ [v] ∧ SyV K H v | false => us = ws)
theorem SyV.ft {K : PySem.W.Frag} {H H' : Hp} {v : V} (f : FT H H') (h : SyV K H v) : SyV K H' v := by
  obtain ⟨p, rfl, h⟩ := h
  exact ⟨p, rfl, sqt_ft f h⟩
theorem StA.ft {K : PySem.W.Frag} {H H' : Hp} {us : List V} {n : Nat} {ss : List Sc} {b : Bool} (f : FT H H') (h : StA K H us n ss b) : StA K H' us n ss b := by
  obtain ⟨ws, h1, h2⟩ := h
  refine ⟨ws, h1.ft f, ?_⟩
  cases b with
  | false => exact h2
  | true =>
    obtain ⟨v, h3, h4⟩ := h2
    exact ⟨v, h3, h4.ft f⟩
def RowsP (H : Hp) (vs : List V) (rows : List (List Int)) : Prop := vs.length = rows.length ∧ ∀ (i : Nat) (row : List Int), rows[i]? = some row → ∃ p, vs[i]? = some (.ref p) ∧ H p = some (.lst (row.map V.int))
theorem RowsP.same {H H' : Hp} {vs : List V} {rows : List (List Int)} (e : Same H H') (h : RowsP H vs rows) : RowsP H' vs rows :=
  ⟨h.1, fun i row hr => by obtain ⟨p, hv, g⟩ := h.2 i row hr; exact ⟨p, hv, e _ _ g⟩⟩
theorem RowsP.toA {K : PySem.W.Frag} {H : Hp} {vs : List V} {rows : List (List Int)} (h : RowsP H vs rows) : RowsA K H vs rows :=
  ⟨h.1, fun i row hr => by obtain ⟨p, hv, g⟩ := h.2 i row hr; exact ⟨p, hv, sql g⟩⟩
theorem RowsP.more {G : Hp} {D q : Addr} {vs : List V} {rows : List (List Int)} {row : List Int} (e : G D = some (.lst vs)) (h : RowsP G vs rows) (hq : G q = some (.lst (row.map V.int))) (n : q ≠ D) : RowsP (upd G D (.lst (vs ++ [.ref q]))) (vs ++ [.ref q]) (rows ++ [row]) := by
  refine ⟨by rw [List.length_append, List.length_append, h.1]; rfl, fun i r hr => ?_⟩
  by_cases hi : i < rows.length
  · rw [List.getElem?_append_left hi] at hr
    obtain ⟨p, hp, g⟩ := h.2 i r hr
    refine ⟨p, by rw [List.getElem?_append_left (by rw [h.1]; exact hi)]; exact hp, ?_⟩
    have np : p ≠ D := fun z => by
      rw [z, e] at g
      have e2 : vs = r.map V.int := by injection g with g; injection g
      have hlt : i < vs.length := (List.getElem?_eq_some_iff.mp hp).1
      rw [e2, List.length_map] at hlt
      rw [e2, List.getElem?_map, List.getElem?_eq_getElem hlt] at hp
      cases hp
    rw [upd_ne np]
    exact g
  · rw [List.getElem?_append_right (by omega)] at hr
    have hi2 : i - rows.length = 0 := by
      have := (List.getElem?_eq_some_iff.mp hr).1
      simp at this
      omega
    rw [hi2] at hr
    cases hr
    refine ⟨q, by rw [List.getElem?_append_right (by rw [h.1]; omega), h.1, hi2]; rfl, ?_⟩
    rw [upd_ne n]
    exact hq
theorem args5b {a : Addr} {x x' g r b b' : Int} (h1 : x = x') (h2 : b = b') : [V.ref a, V.int x, V.int g, V.int r, V.int b] = [V.ref a, V.int x', V.int g, V.int r, V.int b'] := by rw [h1, h2]
def newP (j : JS) (ds : List PyData) : List Sc := allParts j.gen j.boot j.recs.length (ds.map pkL)
def sp_japp (C : Addr) (K : PySem.W.Frag) : Sp := fun vs H Q _ => ∃ (p l a : Addr) (xs : List V) (j : JS) (ds : List PyData), vs = [.ref p, .ref a] ∧ JAt C K H p l j ∧ H a = some (.lst xs) ∧ a ≠ l ∧ DpAll K H xs ds ∧ (∀ d ∈ ds, GoodD d) ∧ j.recs.length + ds.length ≤ 2000 ∧ j.boot < 2097152 ∧ j.gen < 2097152 ∧ (newP j ds).length ≤ 50000 ∧
  ∀ q us H', H q = none → Fr [p, l] H H' → FT H H' → JAt C K H' p l { j with used := j.used + (newP j ds).length, recs := j.recs ++ ds } → H' q = some (.lst us) → StA K H' us (j.start + j.used) (newP j ds) (!ds.isEmpty) → Q (.ref q) H'
section
variable {P : Program} {w : World} {K : PySem.W.Frag} {mg : Str → Option Value} {base : Heap}
theorem ok_Journal_append (T : TX K mg) : FnOk P w K mg base CX0 25 T.a_Journal_append T.d_Journal_append ["self", "records"] (sp_japp T.a_Journal K) := by
  refine T.F_Journal_append.ok sc_Journal_append (fun vs H Q E h => ?_) (fun cdv A outer s H vs Q E hr h => ?_)
  · obtain ⟨p, l, a, xs, j, ds, rfl, _⟩ := h
    rfl
  · obtain ⟨p, l, a, xs, j, ds, rfl, hJ, hS, hal, hds, hgd, hlen, hb, hg, hnew, q⟩ := h
    refine ⟨_, (pss_cons (ps_setLc (i := 2) (own := [("record", 5)]) (g := gName 5) (tt := tYes) (by rfl) sc_Journal_append.nd rfl rfl (sw_true rfl rfl rfl (by decide +kernel)) (pi_list (pv 1)) (blkOk_by (own := [("record", 5)]) (N := ["self", "records", "rows", "after", "steps", "record"]) (sc := defScope s_Journal_append) (by decide +kernel)) (fun _ _ _ _ _ => pg_name (i := 5) sc_Journal_append.nd rfl (Or.inl rfl)) (fun _ _ _ _ _ => pts_nil) (fun _ _ _ _ _ => (pe_call (ok_pack T) (hr.mono (by decide)) (by rfl) T.g_pack T.F_pack.kp T.b_pack .nil passL (pa_cons (pv 5) pa_nil))))
      (pss_cons (ps_if (pt_not (pt_truth (pv 2) (by intro _; rfl))) (pss_one (ps_ret (pe_lst pa_nil))) pss_nil)
      (pss_cons (ps_set (i := 3) sc_Journal_append.nd rfl (Or.inl rfl) (pe_op op_add (pe_fld (pv 0) rfl) (pe_fld (pv 0) rfl)))
      (pss_cons (ps_set (i := 4) sc_Journal_append.nd rfl (Or.inl rfl) (pe_call (ok__part_writes T) (hr.mono (by decide)) (by rfl) T.g__part_writes T.F__part_writes.kp T.b__part_writes .nil pass0 (pa_cons (pv 2) (pa_cons (pv 3) (pa_cons (pe_fld (pv 0) rfl) (pa_cons (pe_fld (pv 0) rfl) (pa_cons (pe_callB call_len_seq (by rfl) T.n_len PySem.boot_len (pa_cons (pe_fld (pv 0) rfl) pa_nil)) pa_nil)))))))
      (pss_cons (ps_expr (pe_bm PySem.F.plainAttrs_list PySem.F.slot_list_extend PySem.F.type_list_extend mt_extend (pe_fld (pv 0) rfl) (pa_cons (pe_callTy call_list_of (by rfl) T.n_list (by decide +kernel) (pa_cons (pv 1) pa_nil)) pa_nil)))
      (pss_cons (ps_fldaug (pv 0) (pe_callB call_len_seq (by rfl) T.n_len PySem.boot_len (pa_cons (pv 4) pa_nil)) in_add)
      (pss_one (ps_ret (pe_op op_cat (pv 4) (pe_lst (pa_cons (pe_tup (pa_cons pe_str pa_nil)) pa_nil))))))))))), ?_⟩
    obtain ⟨⟨dx, ob⟩, ⟨vs0, hl0, hd0⟩, hg0⟩ := hJ
    have ob : H p = some (.ins T.a_Journal dx (fl_Journal (.int (j.boot : Int)) (.int (j.gen : Int)) (.int (j.start : Int)) (.int (j.used : Int)) (.ref l))) := ob
    have npl : p ≠ l := fun z => by rw [z, hl0] at ob; cases ob
    have nap : a ≠ p := fun z => by rw [z, ob] at hS; cases hS
    have hxl := dpa_len hds
    have h0l := dpa_len hd0
    refine ⟨_, rfl, a, rfl, ⟨_, sql hS⟩, fun D hD => ?_⟩
    refine lc_list (K := K) (a := a) (xs := xs) (fun i G => Same H G ∧ ∃ vs, G D = some (.lst vs) ∧ RowsP G vs ((ds.take i).map pkL)) ⟨same_upd hD, [], upd_same, rfl, fun i r hr => by simp at hr⟩ (fun i G _ h => h.1.seq (sql hS)) ?_ ?_
    · rintro i x G hx ⟨s1, vs, eD, hR⟩
      obtain ⟨d, hdi, hdx⟩ := dpa_at hds hx
      have hdg := hgd d (List.mem_of_getElem? hdi)
      refine ⟨rfl, ?_⟩
      dsimp only [tYes]
      refine (if_pos rfl).mpr ?_
      refine ⟨_, rfl, x, d, rfl, dp_same s1 _ hdx, okV_fits 20 d hdg.1, fun _ => ⟨by have := hdg.2; omega, fun q' G2 hq' s2 e2 => ?_⟩, fun z => by rw [hdg.1] at z; cases z⟩
      have eD2 := s2 _ _ eD
      have hvl := hR.1
      rw [List.length_map, List.length_take] at hvl
      refine ⟨vs, eD2, szl (by omega), same_put (s1.trans s2) hD, vs ++ [.ref q'], upd_same, ?_⟩
      rw [take_more hdi, List.map_append]
      exact RowsP.more eD2 (hR.same s2) e2 (fun z => by rw [z, eD] at hq'; cases hq')
    · rintro G ⟨s1, vs, eD, hR⟩
      rw [hxl, List.take_length] at hR
      have obG := s1 _ _ ob
      have lG := s1 _ _ hl0
      have aG := s1 _ _ hS
      have hvl := hR.1
      rw [List.length_map] at hvl
      refine ⟨_, rfl, (!vs.isEmpty), .inl ⟨vs, sql eD, rfl⟩, ?_⟩
      cases hds' : ds with
      | nil =>
        subst hds'
        have hv0 : vs = [] := List.length_eq_zero_iff.mp hvl
        subst hv0
        refine ifbt rfl ⟨Nat.zero_le _, fun q' hq' => ?_⟩
        have s2 := same_upd (o := .lst []) hq'
        refine q q' [] _ (none_of s1 hq') (Fr.same (s1.trans s2)) (FT.same (s1.trans s2)) ?_ upd_same ⟨[], .nil _, rfl⟩
        have e1 : ({ boot := j.boot, gen := j.gen, start := j.start, used := j.used + (newP j []).length, recs := j.recs ++ [] } : JS) = j := by rw [List.append_nil]; rfl
        rw [e1]
        exact ⟨⟨dx, s2 _ _ obG⟩, ⟨vs0, s2 _ _ lG, dpa_same (s1.trans s2) _ hd0⟩, hg0⟩
      | cons d0 ds0 =>
        have hne : vs.isEmpty = false := by
          cases vs with
          | nil => rw [hds'] at hvl; cases hvl
          | cons _ _ => rfl
        have hne2 : (!ds.isEmpty) = true := by rw [hds']; rfl
        rw [hne2] at q
        refine ifbf (by rw [hne]; rfl) ?_
        have ea : (j.start : Int) + (j.used : Int) = ((j.start + j.used : Nat) : Int) := by omega
        have hrok : ∀ row ∈ ds.map pkL, RowOk row := fun row hr => by
          obtain ⟨d, hd, rfl⟩ := List.mem_map.mp hr
          exact ⟨pk_bytes 20 d (hgd d hd).1, (hgd d hd).2⟩
        have nDl : D ≠ l := fun z => by rw [z, hl0] at hD; cases hD
        refine ⟨_, rfl, p, T.a_Journal, dx, _, _, rfl, obG, T.K_Journal, T.na_Journal__start, fl_Journal__start, _, rfl, p, T.a_Journal, dx, _, _, rfl, obG, T.K_Journal, T.na_Journal__used, fl_Journal__used, _, _, rfl, rfl, ?_⟩
        refine ⟨_, rfl, _, rfl, _, rfl, p, T.a_Journal, dx, _, _, rfl, obG, T.K_Journal, T.na_Journal__generation, fl_Journal__generation, _, rfl, p, T.a_Journal, dx, _, _, rfl, obG, T.K_Journal, T.na_Journal__boot, fl_Journal__boot, _, rfl, p, T.a_Journal, dx, _, _, rfl, obG, T.K_Journal, T.na_Journal__records, fl_Journal__records, l, _, rfl, .inl (sql lG), D, vs, ds.map pkL, j.start + j.used, j.gen, j.boot, j.recs.length, args5b ea (by rw [h0l]), sql eD, hR.toA, hrok, hg, hb, by rw [List.length_map]; omega, hnew, fun p2 ws G2 hp2 s2 e2 hw => ?_⟩
        have hwl := hw.l
        have hwl' : ws.length = (newP j ds).length := hwl
        have s12 := s1.trans s2
        have ob2 := s12 _ _ ob
        have l2 := s12 _ _ hl0
        have n2l : p2 ≠ l := fun z => by rw [z, lG] at hp2; cases hp2
        have n2p : p2 ≠ p := fun z => by rw [z, obG] at hp2; cases hp2
        have hp2' := none_of s1 hp2
        refine ⟨_, rfl, p, T.a_Journal, dx, _, _, rfl, ob2, T.K_Journal, T.na_Journal__records, fl_Journal__records, .inl ⟨rfl, _, sql l2⟩, _, rfl, a, xs, rfl, .inl (sql (s12 _ _ hS)), fun c hc => ?_⟩
        have s3 := s12.trans (same_upd (o := .lst xs) hc)
        have ec : (upd G2 c (.lst xs)) c = some (.lst xs) := upd_same
        have e3 := same_upd (o := .lst xs) hc _ _ e2
        have ob3 := same_upd (o := .lst xs) hc _ _ ob2
        have l3 := same_upd (o := .lst xs) hc _ _ l2
        have hw3 := hw.same (same_upd (o := .lst xs) hc)
        generalize upd G2 c (.lst xs) = G3 at s3 ec e3 ob3 l3 hw3
        refine ⟨l, c, vs0, xs, rfl, rfl, l3, ec, sz (by omega), ?_⟩
        have ft4 : FT H (upd G3 l (.lst (vs0 ++ xs))) := (FT.same s3).trans (.up l3 rfl)
        have fr4 : Fr [p, l] H (upd G3 l (.lst (vs0 ++ xs))) := (Fr.same s3).up (by simp)
        have hw4 := hw3.ft (FT.up (u := .lst (vs0 ++ xs)) l3 rfl)
        have l4 : (upd G3 l (.lst (vs0 ++ xs))) l = some (.lst (vs0 ++ xs)) := upd_same
        have ob4 : (upd G3 l (.lst (vs0 ++ xs))) p = _ := (upd_ne npl).trans ob3
        have e4 : (upd G3 l (.lst (vs0 ++ xs))) p2 = _ := (upd_ne n2l).trans e3
        generalize upd G3 l (.lst (vs0 ++ xs)) = G4 at ft4 fr4 hw4 l4 ob4 e4
        refine ⟨_, rfl, p, T.a_Journal, dx, _, _, rfl, ob4, T.K_Journal, T.na_Journal__used, fl_Journal__used, _, rfl, p2, ws, rfl, .inl (sql e4), _, _, rfl, rfl, dx, _, ob4, (by show 5 < 1000; decide), ?_⟩
        rw [pf_Journal__used]
        have eu : (j.used : Int) + (ws.length : Int) = ((j.used + (newP j ds).length : Nat) : Int) := by rw [hwl']; omega
        rw [eu]
        have ft5 : FT G4 (upd G4 p (.ins T.a_Journal dx (fl_Journal (.int (j.boot : Int)) (.int (j.gen : Int)) (.int (j.start : Int)) (.int ((j.used + (newP j ds).length : Nat) : Int)) (.ref l)))) := .up ob4 rfl
        have fr5 : Fr [p, l] H (upd G4 p (.ins T.a_Journal dx (fl_Journal (.int (j.boot : Int)) (.int (j.gen : Int)) (.int (j.start : Int)) (.int ((j.used + (newP j ds).length : Nat) : Int)) (.ref l)))) := fr4.up (by simp)
        have ob5 : (upd G4 p (.ins T.a_Journal dx (fl_Journal (.int (j.boot : Int)) (.int (j.gen : Int)) (.int (j.start : Int)) (.int ((j.used + (newP j ds).length : Nat) : Int)) (.ref l)))) p = some (.ins T.a_Journal dx (fl_Journal (.int (j.boot : Int)) (.int (j.gen : Int)) (.int (j.start : Int)) (.int ((j.used + (newP j ds).length : Nat) : Int)) (.ref l))) := upd_same
        have l5 : (upd G4 p (.ins T.a_Journal dx (fl_Journal (.int (j.boot : Int)) (.int (j.gen : Int)) (.int (j.start : Int)) (.int ((j.used + (newP j ds).length : Nat) : Int)) (.ref l)))) l = _ := (upd_ne npl.symm).trans l4
        have e5 : (upd G4 p (.ins T.a_Journal dx (fl_Journal (.int (j.boot : Int)) (.int (j.gen : Int)) (.int (j.start : Int)) (.int ((j.used + (newP j ds).length : Nat) : Int)) (.ref l)))) p2 = _ := (upd_ne n2p).trans e4
        have hw5 := hw4.ft ft5
        have ft05 := ft4.trans ft5
        generalize upd G4 p (.ins T.a_Journal dx (fl_Journal (.int (j.boot : Int)) (.int (j.gen : Int)) (.int (j.start : Int)) (.int ((j.used + (newP j ds).length : Nat) : Int)) (.ref l))) = G5 at ft5 fr5 ob5 l5 e5 hw5 ft05
        refine ⟨_, rfl, (by show 1 ≤ sizeLine; decide), fun pt hpt => ⟨(by show 1 ≤ sizeLine; decide), fun pl hpl => ?_⟩⟩
        have s6 := (same_upd (o := .tup [.str "sync"]) hpt).trans (same_upd (o := .lst [.ref pt]) hpl)
        have e6 : (upd (upd G5 pt (.tup [.str "sync"])) pl (.lst [.ref pt])) pt = some (.tup [.str "sync"]) := same_upd hpl _ _ upd_same
        have e7 : (upd (upd G5 pt (.tup [.str "sync"])) pl (.lst [.ref pt])) pl = some (.lst [.ref pt]) := upd_same
        generalize upd (upd G5 pt (.tup [.str "sync"])) pl (.lst [.ref pt]) = G6 at s6 e6 e7
        refine ⟨p2, pl, ws, [.ref pt], rfl, rfl, s6 _ _ e5, e7, sz (by simp only [List.length_cons, List.length_nil]; omega), fun q' hq' => ?_⟩
        have s7 := s6.trans (same_upd (o := .lst (ws ++ [.ref pt])) hq')
        have hgd' : ∀ d ∈ j.recs ++ ds, GoodD d := fun d hd => by
          rcases List.mem_append.mp hd with h | h
          · exact hg0 d h
          · exact hgd d h
        have hq0 : H q' = none := by
          cases e : H q' with
          | none => rfl
          | some o =>
            by_cases h1 : q' = p
            · rw [h1, s6 _ _ ob5] at hq'; cases hq'
            · by_cases h2 : q' = l
              · rw [h2, s6 _ _ l5] at hq'; cases hq'
              · rw [s6 _ _ (fr5 _ _ e (by simp [h1, h2]))] at hq'; cases hq'
        exact q q' _ _ hq0 (fr5.trans (Fr.same s7)) (ft05.trans (FT.same s7)) ⟨⟨dx, s7 _ _ ob5⟩, ⟨vs0 ++ xs, s7 _ _ l5, dpa_same s7 _ (dpa_good ft05 hgd' (dpa_app hd0 hds))⟩, hgd'⟩ upd_same ⟨ws, hw5.same s7, .ref pt, rfl, pt, rfl, sqt (same_upd hq' _ _ e6)⟩
end
/-! steps -/
def newSt (st used m : Nat) : Nat := if m ≤ st - 2 then 2 else st + used
inductive Stp where
  | wr (n : Nat) (s : Sc)
  | sync
theorem WrV.ft {K : PySem.W.Frag} {H H' : Hp} {v : V} {n : Nat} {s : Sc} (f : FT H H') (h : WrV K H v n s) : WrV K H' v n s := by
  obtain ⟨p, q, rfl, h1, h2⟩ := h
  exact ⟨p, q, rfl, sqt_ft f h1, sqt_ft f h2⟩
def StpV (K : PySem.W.Frag) (H : Hp) (v : V) : Stp → Prop
  | .wr n s => WrV K H v n s
  | .sync => SyV K H v
theorem StpV.ft {K : PySem.W.Frag} {H H' : Hp} {v : V} {t : Stp} (f : FT H H') (h : StpV K H v t) : StpV K H' v t := by
  cases t with
  | wr n s => exact WrV.ft f h
  | sync => exact SyV.ft f h
structure StpA (K : PySem.W.Frag) (H : Hp) (us : List V) (ts : List Stp) : Prop where
  l : us.length = ts.length
  a : ∀ (i : Nat) (t : Stp), ts[i]? = some t → ∃ v, us[i]? = some v ∧ StpV K H v t
theorem StpA.ft {K : PySem.W.Frag} {H H' : Hp} {us : List V} {ts : List Stp} (f : FT H H') (h : StpA K H us ts) : StpA K H' us ts :=
  ⟨h.l, fun i t ht => by obtain ⟨v, hv, g⟩ := h.a i t ht; exact ⟨v, hv, g.ft f⟩⟩
theorem StpA.same {K : PySem.W.Frag} {H H' : Hp} {us : List V} {ts : List Stp} (f : Same H H') (h : StpA K H us ts) : StpA K H' us ts := h.ft (FT.same f)
def wrs : Nat → List Sc → List Stp
  | _, [] => []
  | n, s :: ss => .wr n s :: wrs (n + 1) ss
theorem wrs_len : ∀ (n : Nat) (ss : List Sc), (wrs n ss).length = ss.length
  | _, [] => rfl
  | n, s :: ss => by rw [wrs, List.length_cons, List.length_cons, wrs_len (n + 1) ss]
theorem wrs_at : ∀ {n i : Nat} {ss : List Sc} {t : Stp}, (wrs n ss)[i]? = some t → ∃ s, ss[i]? = some s ∧ t = .wr (n + i) s
  | n, i, [], t, h => by simp [wrs] at h
  | n, 0, s :: ss, t, h => ⟨s, rfl, by rw [wrs] at h; exact (Option.some.inj h).symm⟩
  | n, i + 1, s :: ss, t, h => by
    rw [wrs, List.getElem?_cons_succ] at h
    obtain ⟨s', h1, h2⟩ := wrs_at h
    exact ⟨s', by rw [List.getElem?_cons_succ]; exact h1, by rw [h2, show n + 1 + i = n + (i + 1) by omega]⟩
theorem wrs_mem {n : Nat} {ss : List Sc} {t : Stp} (h : t ∈ wrs n ss) : ∃ k s, t = .wr k s ∧ s ∈ ss ∧ n ≤ k ∧ k < n + ss.length := by
  obtain ⟨i, hi, e⟩ := List.getElem_of_mem h
  have h2 : (wrs n ss)[i]? = some t := by rw [List.getElem?_eq_getElem hi, e]
  obtain ⟨s, h3, h4⟩ := wrs_at h2
  rw [wrs_len] at hi
  exact ⟨n + i, s, h4, List.mem_of_getElem? h3, by omega, by omega⟩
theorem wrs_app : ∀ (n : Nat) (ss ts : List Sc), wrs n (ss ++ ts) = wrs n ss ++ wrs (n + ss.length) ts
  | n, [], ts => rfl
  | n, s :: ss, ts => by rw [List.cons_append, wrs, wrs, wrs_app (n + 1) ss ts, List.cons_append, List.length_cons, show n + 1 + ss.length = n + (ss.length + 1) by omega]
theorem WrA.stp {K : PySem.W.Frag} {H : Hp} {us : List V} {n : Nat} {ss : List Sc} (h : WrA K H us n ss) : StpA K H us (wrs n ss) :=
  ⟨by rw [wrs_len]; exact h.l, fun i t ht => by
    obtain ⟨s, h1, rfl⟩ := wrs_at ht
    exact h.a i s h1⟩
theorem StpA.nil {K : PySem.W.Frag} {H : Hp} : StpA K H [] [] := ⟨rfl, fun i t h => by simp at h⟩
theorem StpA.cons {K : PySem.W.Frag} {H : Hp} {v : V} {us : List V} {t : Stp} {ts : List Stp} (h : StpV K H v t) (g : StpA K H us ts) : StpA K H (v :: us) (t :: ts) :=
  ⟨by rw [List.length_cons, List.length_cons, g.l], fun i u hu => by
    cases i with
    | zero => cases hu; exact ⟨v, rfl, h⟩
    | succ i => exact g.a i u (by simpa using hu)⟩
theorem StpA.app {K : PySem.W.Frag} {H : Hp} {us ws : List V} {ts rs : List Stp} (h : StpA K H us ts) (g : StpA K H ws rs) : StpA K H (us ++ ws) (ts ++ rs) := by
  refine ⟨by rw [List.length_append, List.length_append, h.l, g.l], fun i s hs => ?_⟩
  by_cases hi : i < ts.length
  · rw [List.getElem?_append_left hi] at hs
    obtain ⟨v, hv, k⟩ := h.a i s hs
    exact ⟨v, by rw [List.getElem?_append_left (by rw [h.l]; exact hi)]; exact hv, k⟩
  · rw [List.getElem?_append_right (by omega)] at hs
    obtain ⟨v, hv, k⟩ := g.a _ s hs
    exact ⟨v, by rw [List.getElem?_append_right (by rw [h.l]; omega), h.l]; exact hv, k⟩
theorem StpA.take {K : PySem.W.Frag} {H : Hp} {us : List V} {ts : List Stp} (h : StpA K H us ts) (n : Nat) : StpA K H (us.take n) (ts.take n) :=
  ⟨by rw [List.length_take, List.length_take, h.l], fun i t ht => by
    rw [List.getElem?_take] at ht
    split at ht
    · next hc =>
      obtain ⟨v, hv, g⟩ := h.a i t ht
      exact ⟨v, by rw [List.getElem?_take, if_pos hc]; exact hv, g⟩
    · cases ht⟩
def stD : Stp → PyData
  | .wr n s => .tuple [.str "write", .int (n : Int), .tuple ((scB s).map .int)]
  | .sync => .tuple [.str "sync"]
theorem WrV.dp {K : PySem.W.Frag} {H : Hp} {v : V} {n : Nat} {s : Sc} (h : WrV K H v n s) : Dp K H v (stD (.wr n s)) := by
  obtain ⟨p, q, rfl, h1, h2⟩ := h
  exact .tup h1 (.cons (.str _) (.cons (.int _) (.cons (.tup h2 (dpa_ints _)) .nil)))
theorem SyV.dp {K : PySem.W.Frag} {H : Hp} {v : V} (h : SyV K H v) : Dp K H v (stD .sync) := by
  obtain ⟨p, rfl, h1⟩ := h
  exact .tup h1 (.cons (.str _) .nil)
theorem StpV.dp {K : PySem.W.Frag} {H : Hp} {v : V} {t : Stp} (h : StpV K H v t) : Dp K H v (stD t) := by
  cases t with
  | wr n s => exact WrV.dp h
  | sync => exact SyV.dp h
theorem stD_flat (t : Stp) : Flat 2 (stD t) := by
  cases t with
  | wr n s =>
    refine flat_tup (n := 1) fun d hd => ?_
    simp only [List.mem_cons, List.not_mem_nil, or_false] at hd
    rcases hd with rfl | rfl | rfl
    · exact flat_str 1 _
    · exact flat_int 1 _
    · exact flat_tints _
  | sync => exact (flat_tup (n := 0) fun d hd => by rw [List.mem_singleton.mp hd]; exact flat_str 0 _).mono (by decide)
theorem StpA.dpa {K : PySem.W.Frag} {H : Hp} : ∀ {us : List V} {ts : List Stp}, StpA K H us ts → DpAll K H us (ts.map stD)
  | [], [], _ => .nil
  | [], _ :: _, h => by have := h.l; simp at this
  | _ :: _, [], h => by have := h.l; simp at this
  | v :: us, t :: ts, h => by
    obtain ⟨v', hv', g⟩ := h.a 0 t rfl
    cases hv'
    refine .cons g.dp (StpA.dpa ⟨by have := h.l; simpa using this, fun i u hu => ?_⟩)
    obtain ⟨w, hw, k⟩ := h.a (i + 1) u (by simpa using hu)
    exact ⟨w, by simpa using hw, k⟩
theorem stps_sh (ts : List Stp) : SeqAt.shaped (.list (ts.map stD)) = true := (flat_list (n := 2) fun d hd => by
  obtain ⟨t, _, rfl⟩ := List.mem_map.mp hd
  exact stD_flat t).sh (by decide)
def newQ (j : JS) (ds : List PyData) : List Sc := allParts (j.gen + 1) j.boot 0 (ds.map pkL)
def rwS (j : JS) (ds : List PyData) : Nat := newSt j.start j.used (newQ j ds).length
def rwT (j : JS) (ds : List PyData) : List Stp := wrs (rwS j ds) (newQ j ds) ++ [.sync, .wr ((j.gen + 1) % 2) (.head (j.gen + 1) (rwS j ds) j.boot), .sync]
theorem sum_pc (g b r : Nat) : ∀ rows : List (List Int), (rows.map fun row => (pc row.length : Int)).sum = ((allParts g b r rows).length : Int)
  | [] => rfl
  | row :: rows => by
    rw [List.map_cons, List.sum_cons, allParts, List.length_append, sum_pc g b (r + 1) rows]
    have : (partsOf g b r row).length = pc row.length := by unfold partsOf; rw [List.length_map, List.length_range]
    rw [this]; omega
theorem allParts_len (g b r g' b' r' : Nat) (rows : List (List Int)) : (allParts g b r rows).length = (allParts g' b' r' rows).length := by
  have h1 := sum_pc g b r rows
  have h2 := sum_pc g' b' r' rows
  omega
def sp_jrew (C : Addr) (K : PySem.W.Frag) : Sp := fun vs H Q _ => ∃ (p l a : Addr) (xs : List V) (j : JS) (ds : List PyData), vs = [.ref p, .ref a] ∧ JAt C K H p l j ∧ H a = some (.lst xs) ∧ DpAll K H xs ds ∧ (∀ d ∈ ds, GoodD d) ∧ ds.length ≤ 2000 ∧ j.boot < 2097152 ∧ j.gen + 1 < 2097152 ∧ 2 ≤ j.start ∧ rwS j ds < 2097152 ∧ (newQ j ds).length ≤ 50000 ∧
  ∀ q us l' H', H q = none → H l' = none → q ≠ l' → Fr [p] H H' → FT H H' → JAt C K H' p l' ⟨j.boot, j.gen + 1, rwS j ds, (newQ j ds).length, ds⟩ → H' q = some (.lst us) → StpA K H' us (rwT j ds) → Q (.ref q) H'
theorem none_fr {L : List Addr} {H H' : Hp} {x : Addr} (f : Fr L H H') (h : H' x = none) (hL : ∀ y ∈ L, H' y ≠ none) : H x = none := by
  cases e : H x with
  | none => rfl
  | some o =>
    by_cases hx : x ∈ L
    · exact absurd h (hL x hx)
    · rw [f x o e hx] at h; cases h
section
variable {P : Program} {w : World} {K : PySem.W.Frag} {mg : Str → Option Value} {base : Heap}
theorem ok_Journal_rewrite (T : TX K mg) : FnOk P w K mg base CX0 25 T.a_Journal_rewrite T.d_Journal_rewrite ["self", "records"] (sp_jrew T.a_Journal K) := by
  refine T.F_Journal_rewrite.ok sc_Journal_rewrite (fun vs H Q E h => ?_) (fun cdv A outer s H vs Q E hr h => ?_)
  · obtain ⟨p, l, a, xs, j, ds, rfl, _⟩ := h
    rfl
  · obtain ⟨p, l, a, xs, j, ds, rfl, hJ, hS, hds, hgd, hlen, hb, hg, hst2, hrs, hnew, q⟩ := h
    refine ⟨_, (pss_cons (ps_setLc (i := 2) (own := [("record", 8)]) (g := gName 8) (tt := tYes) (by rfl) sc_Journal_rewrite.nd rfl rfl (sw_true rfl rfl rfl (by decide +kernel)) (pi_list (pv 1)) (blkOk_by (own := [("record", 8)]) (N := ["self", "records", "rows", "needed", "start", "generation", "steps", "head", "record", "packed"]) (sc := defScope s_Journal_rewrite) (by decide +kernel)) (fun _ _ _ _ _ => pg_name (i := 8) sc_Journal_rewrite.nd rfl (Or.inl rfl)) (fun _ _ _ _ _ => pts_nil) (fun _ _ _ _ _ => (pe_call (ok_pack T) (hr.mono (by decide)) (by rfl) T.g_pack T.F_pack.kp T.b_pack .nil passL (pa_cons (pv 8) pa_nil))))
      (pss_cons (ps_set (i := 3) sc_Journal_rewrite.nd rfl (Or.inl rfl) (pe_callB (cr_sum rfl) (by rfl) T.n_sum (by decide +kernel) (pa_cons (pe_lc (own := [("packed", 9)]) (g := gName 9) (tt := tYes) (by rfl) sc_Journal_rewrite.nd (pi_list (pv 2)) (blkOk_by (own := [("packed", 9)]) (N := ["self", "records", "rows", "needed", "start", "generation", "steps", "head", "record", "packed"]) (sc := defScope s_Journal_rewrite) (by decide +kernel)) (fun _ _ _ _ _ => pg_name (i := 9) sc_Journal_rewrite.nd rfl (Or.inl rfl)) (fun _ _ _ _ _ => pts_nil) (fun _ _ _ _ _ => (pe_call (ok__piece_count T) (hr.mono (by decide)) (by rfl) T.g__piece_count T.F__piece_count.kp T.b__piece_count .nil pass0 (pa_cons (pv 9) pa_nil)))) pa_nil)))
      (pss_cons (ps_set (i := 4) sc_Journal_rewrite.nd rfl (Or.inl rfl) (pe_op op_add (pe_fld (pv 0) rfl) (pe_fld (pv 0) rfl)))
      (C8.pss_cut (ps_if (pt_cmpR op_le (pv 3) (pe_op op_sub (pe_fld (pv 0) rfl) (pe_glob (v := .int 2) (by rfl) T.c_FIRST_START ⟨_, rfl⟩)) (nomark _)) (pss_one (ps_set (i := 4) sc_Journal_rewrite.nd rfl (Or.inl rfl) (pe_glob (v := .int 2) (by rfl) T.c_FIRST_START ⟨_, rfl⟩))) pss_nil)
      (pss_cons (ps_set (i := 5) sc_Journal_rewrite.nd rfl (Or.inl rfl) (pe_op op_add (pe_fld (pv 0) rfl) pe_int))
      (pss_cons (ps_set (i := 6) sc_Journal_rewrite.nd rfl (Or.inl rfl) (pe_call (ok__part_writes T) (hr.mono (by decide)) (by rfl) T.g__part_writes T.F__part_writes.kp T.b__part_writes .nil pass0 (pa_cons (pv 2) (pa_cons (pv 4) (pa_cons (pv 5) (pa_cons (pe_fld (pv 0) rfl) (pa_cons pe_int pa_nil)))))))
      (pss_cons (ps_set (i := 7) sc_Journal_rewrite.nd rfl (Or.inl rfl) (pe_call (ok_make_sector T) (hr.mono (by decide)) (by rfl) T.g_make_sector T.F_make_sector.kp T.b_make_sector .nil pass0 (pa_cons (pe_glob (v := .int 1) (by rfl) T.c_HEAD_KIND ⟨_, rfl⟩) (pa_cons (pe_call (ok_pack T) (hr.mono (by decide)) (by rfl) T.g_pack T.F_pack.kp T.b_pack .nil passL (pa_cons (pe_tup (pa_cons (pv 5) (pa_cons (pv 4) (pa_cons (pe_fld (pv 0) rfl) pa_nil)))) pa_nil)) pa_nil))))
      (pss_cons (ps_fld (pv 0) (pv 5) rfl)
      (pss_cons (ps_fld (pv 0) (pv 4) rfl)
      (pss_cons (ps_fld (pv 0) (pv 3) rfl)
      (pss_cons (ps_fld (pv 0) (pe_callTy call_list_of (by rfl) T.n_list (by decide +kernel) (pa_cons (pv 1) pa_nil)) rfl)
      (pss_one (ps_ret (pe_op op_cat (pv 6) (pe_lst (pa_cons (pe_tup (pa_cons pe_str pa_nil)) (pa_cons (pe_tup (pa_cons pe_str (pa_cons (pe_op op_mod (pv 5) pe_int) (pa_cons (pv 7) pa_nil)))) (pa_cons (pe_tup (pa_cons pe_str pa_nil)) pa_nil)))))))))))))))))), ?_⟩
    obtain ⟨⟨dx, ob⟩, ⟨vs0, hl0, hd0⟩, hg0⟩ := hJ
    have ob : H p = some (.ins T.a_Journal dx (fl_Journal (.int (j.boot : Int)) (.int (j.gen : Int)) (.int (j.start : Int)) (.int (j.used : Int)) (.ref l))) := ob
    have nap : a ≠ p := fun z => by rw [z, ob] at hS; cases hS
    have hxl := dpa_len hds
    refine ⟨_, rfl, a, rfl, ⟨_, sql hS⟩, fun D hD => ?_⟩
    refine lc_list (K := K) (a := a) (xs := xs) (fun i G => Same H G ∧ ∃ vs, G D = some (.lst vs) ∧ RowsP G vs ((ds.take i).map pkL)) ⟨same_upd hD, [], upd_same, rfl, fun i r hr => by simp at hr⟩ (fun i G _ h => h.1.seq (sql hS)) ?_ ?_
    · rintro i x G hx ⟨s1, vs, eD, hR⟩
      obtain ⟨d, hdi, hdx⟩ := dpa_at hds hx
      have hdg := hgd d (List.mem_of_getElem? hdi)
      refine ⟨rfl, ?_⟩
      dsimp only [tYes]
      refine (if_pos rfl).mpr ?_
      refine ⟨_, rfl, x, d, rfl, dp_same s1 _ hdx, okV_fits 20 d hdg.1, fun _ => ⟨by have := hdg.2; omega, fun q' G2 hq' s2 e2 => ?_⟩, fun z => by rw [hdg.1] at z; cases z⟩
      have eD2 := s2 _ _ eD
      have hvl := hR.1
      rw [List.length_map, List.length_take] at hvl
      refine ⟨vs, eD2, szl (by omega), same_put (s1.trans s2) hD, vs ++ [.ref q'], upd_same, ?_⟩
      rw [take_more hdi, List.map_append]
      exact RowsP.more eD2 (hR.same s2) e2 (fun z => by rw [z, eD] at hq'; cases hq')
    · rintro G ⟨s1, vs, eD, hR⟩
      rw [hxl, List.take_length] at hR
      have hvl := hR.1
      rw [List.length_map] at hvl
      have hrok : ∀ row ∈ ds.map pkL, RowOk row := fun row hr => by
        obtain ⟨d, hd, rfl⟩ := List.mem_map.mp hr
        exact ⟨pk_bytes 20 d (hgd d hd).1, (hgd d hd).2⟩
      -- needed = sum([..])
      refine ⟨_, rfl, D, rfl, ⟨_, sql eD⟩, fun D2 hD2 => ?_⟩
      refine lc_list (K := K) (a := D) (xs := vs) (fun i G' => Same G G' ∧ G' D2 = some (.lst ((((ds.map pkL).take i).map fun row => (pc row.length : Int)).map V.int))) ⟨same_upd hD2, upd_same⟩ (fun i G' _ h => h.1.seq (sql eD)) ?_ ?_
      · rintro i x G' hx ⟨s2, e2⟩
        have hi : i < (ds.map pkL).length := by rw [← hR.1]; exact (List.getElem?_eq_some_iff.mp hx).1
        have hrow : (ds.map pkL)[i]? = some (ds.map pkL)[i] := List.getElem?_eq_getElem hi
        obtain ⟨pr, hpr, er⟩ := hR.2 i _ hrow
        obtain rfl : x = .ref pr := by rw [hpr] at hx; exact (Option.some.inj hx).symm
        refine ⟨rfl, ?_⟩
        dsimp only [tYes]
        refine (if_pos rfl).mpr ?_
        refine ⟨_, rfl, pr, _, rfl, sql (s2 _ _ er), ?_⟩
        refine ⟨_, e2, szl (by rw [List.length_map, List.length_map, List.length_take, List.length_map]; omega), same_put s2 hD2, ?_⟩
        rw [upd_same, take_more hrow, List.map_append, List.map_append]
        rfl
      · rintro G' ⟨s2, e2⟩
        rw [hR.1, List.take_length] at e2
        refine ⟨D2, _, rfl, sql e2, ?_⟩
        rw [sum_pc (j.gen + 1) j.boot 0]
        have eNew : allParts (j.gen + 1) j.boot 0 (ds.map pkL) = newQ j ds := rfl
        rw [eNew]
        have s12 := s1.trans s2
        have ob1 := s12 _ _ ob
        refine ⟨_, rfl, p, T.a_Journal, dx, _, _, rfl, ob1, T.K_Journal, T.na_Journal__start, fl_Journal__start, _, rfl, p, T.a_Journal, dx, _, _, rfl, ob1, T.K_Journal, T.na_Journal__used, fl_Journal__used, _, _, rfl, rfl, ?_⟩
        refine ⟨fun σ' G2 => σ' = [some (.ref p), some (.ref a), some (.ref D), some (.int ((newQ j ds).length : Int)), some (.int (rwS j ds : Int)), none, none, none, none, none] ∧ G' = G2, ?_, ?_⟩
        · refine ⟨_, rfl, _, rfl, p, T.a_Journal, dx, _, _, rfl, ob1, T.K_Journal, T.na_Journal__start, fl_Journal__start, _, _, rfl, rfl, _, _, rfl, rfl, _, rfl, ifd (fun hc => ⟨?_, rfl⟩) (fun hc => ⟨?_, rfl⟩)⟩
          · have : rwS j ds = 2 := if_pos (by omega)
            rw [this]; rfl
          · have : rwS j ds = j.start + j.used := if_neg (by omega)
            rw [this, Int.natCast_add]; rfl
        · rintro σ' _ ⟨rfl, rfl⟩
          have hlR : (ds.map pkL).length = ds.length := List.length_map _
          refine ⟨_, rfl, p, T.a_Journal, dx, _, _, rfl, ob1, T.K_Journal, T.na_Journal__generation, fl_Journal__generation, _, _, rfl, rfl, ?_⟩
          have eg1 : (j.gen : Int) + 1 = ((j.gen + 1 : Nat) : Int) := by omega
          dsimp only
          rw [eg1]
          refine ⟨_, rfl, _, rfl, _, rfl, _, rfl, p, T.a_Journal, dx, _, _, rfl, ob1, T.K_Journal, T.na_Journal__boot, fl_Journal__boot, D, vs, ds.map pkL, rwS j ds, j.gen + 1, j.boot, 0, rfl, sql (s2 _ _ eD), (hR.same s2).toA, hrok, hg, hb, by rw [hlR]; omega, hnew, fun p2 ws G2 hp2 s3 e3 hw => ?_⟩
          have s13 := s12.trans s3
          have ob3 := s13 _ _ ob
          refine ⟨_, rfl, _, rfl, _, rfl, p, T.a_Journal, dx, _, _, rfl, ob3, T.K_Journal, T.na_Journal__boot, fl_Journal__boot, (by show 3 ≤ sizeLine; decide), fun pt hpt => ?_⟩
          have s4 := same_upd (o := .tup [.int ((j.gen + 1 : Nat) : Int), .int (rwS j ds : Int), .int (j.boot : Int)]) hpt
          have et : (upd G2 pt (.tup [.int ((j.gen + 1 : Nat) : Int), .int (rwS j ds : Int), .int (j.boot : Int)])) pt = some (.tup [.int ((j.gen + 1 : Nat) : Int), .int (rwS j ds : Int), .int (j.boot : Int)]) := upd_same
          generalize upd G2 pt (.tup [.int ((j.gen + 1 : Nat) : Int), .int (rwS j ds : Int), .int (j.boot : Int)]) = G3 at s4 et
          have hok : ScOk (.head (j.gen + 1) (rwS j ds) j.boot) := ⟨hg, hrs, hb⟩
          have hhd := hd_ok _ _ _ hok
          have hhl := hdP_len hok
          refine ⟨.ref pt, .tuple [.int ((j.gen + 1 : Nat) : Int), .int (rwS j ds : Int), .int (j.boot : Int)], rfl, .tup (sqt et) (.cons (.int _) (.cons (.int _) (.cons (.int _) .nil))), okV_fits 20 _ hhd, fun _ => ⟨by unfold hdP at hhl; omega, fun ph G4 _ s5 eh => ?_⟩, fun z => by rw [hhd] at z; cases z⟩
          have eh : G4 ph = some (.lst ((hdP (j.gen + 1) (rwS j ds) j.boot).map V.int)) := eh
          refine ⟨ph, 1, _, rfl, sql eh, by omega, fun psc G5 _ s6 esc => ?_⟩
          have s36 := (s4.trans s5).trans s6
          have s16 := s13.trans s36
          have sG5 := s3.trans s36
          have e5 := s36 _ _ e3
          have hw5 := hw.same s36
          have ob5 := s16 _ _ ob
          have aG5 := s16 _ _ hS
          have hp2' := none_of s12 hp2
          clear s4 s5 s6 s36 et eh hw s3 e3 ob3
          -- the fields
          refine ⟨_, rfl, _, rfl, p, T.a_Journal, dx, _, rfl, ob5, T.K_Journal, T.na_Journal__generation, (by show 5 < 1000; decide), ?_⟩
          rw [pf_Journal__generation]
          refine ⟨_, rfl, _, rfl, p, T.a_Journal, dx, _, rfl, upd_same, T.K_Journal, T.na_Journal__start, (by show 5 < 1000; decide), ?_⟩
          rw [pf_Journal__start]
          refine ⟨_, rfl, _, rfl, p, T.a_Journal, dx, _, rfl, upd_same, T.K_Journal, T.na_Journal__used, (by show 5 < 1000; decide), ?_⟩
          rw [pf_Journal__used, upd_upd, upd_upd]
          have nap' : a ≠ p := nap
          refine ⟨_, rfl, a, xs, rfl, .inl (sql ((upd_ne nap).trans aG5)), fun l' hl' => ?_⟩
          have nlp : l' ≠ p := fun z => by rw [z, upd_same] at hl'; cases hl'
          have hl5 : G5 l' = none := by rw [upd_ne nlp] at hl'; exact hl'
          refine ⟨_, rfl, p, T.a_Journal, dx, _, rfl, (upd_ne nlp.symm).trans upd_same, T.K_Journal, T.na_Journal__records, (by show 5 < 1000; decide), ?_⟩
          rw [pf_Journal__records]
          have ft6 : FT G5 (upd (upd (upd G5 p (.ins T.a_Journal dx (fl_Journal (.int (j.boot : Int)) (.int ((j.gen + 1 : Nat) : Int)) (.int (rwS j ds : Int)) (.int ((newQ j ds).length : Int)) (.ref l)))) l' (.lst xs)) p (.ins T.a_Journal dx (fl_Journal (.int (j.boot : Int)) (.int ((j.gen + 1 : Nat) : Int)) (.int (rwS j ds : Int)) (.int ((newQ j ds).length : Int)) (.ref l')))) := fun x o hx hm => by
            have n1 : x ≠ p := fun z => by rw [z, ob5] at hx; cases hx; cases hm
            have n2 : x ≠ l' := fun z => by rw [z, hl5] at hx; cases hx
            rw [upd_ne n1, upd_ne n2, upd_ne n1]
            exact hx
          have fr6 : Fr [p] G5 (upd (upd (upd G5 p (.ins T.a_Journal dx (fl_Journal (.int (j.boot : Int)) (.int ((j.gen + 1 : Nat) : Int)) (.int (rwS j ds : Int)) (.int ((newQ j ds).length : Int)) (.ref l)))) l' (.lst xs)) p (.ins T.a_Journal dx (fl_Journal (.int (j.boot : Int)) (.int ((j.gen + 1 : Nat) : Int)) (.int (rwS j ds : Int)) (.int ((newQ j ds).length : Int)) (.ref l')))) := fun x o hx hm => by
            have n1 : x ≠ p := by simpa using hm
            have n2 : x ≠ l' := fun z => by rw [z, hl5] at hx; cases hx
            rw [upd_ne n1, upd_ne n2, upd_ne n1]
            exact hx
          have ob6 : (upd (upd (upd G5 p (.ins T.a_Journal dx (fl_Journal (.int (j.boot : Int)) (.int ((j.gen + 1 : Nat) : Int)) (.int (rwS j ds : Int)) (.int ((newQ j ds).length : Int)) (.ref l)))) l' (.lst xs)) p (.ins T.a_Journal dx (fl_Journal (.int (j.boot : Int)) (.int ((j.gen + 1 : Nat) : Int)) (.int (rwS j ds : Int)) (.int ((newQ j ds).length : Int)) (.ref l')))) p = some (.ins T.a_Journal dx (fl_Journal (.int (j.boot : Int)) (.int ((j.gen + 1 : Nat) : Int)) (.int (rwS j ds : Int)) (.int ((newQ j ds).length : Int)) (.ref l'))) := upd_same
          have l6 : (upd (upd (upd G5 p (.ins T.a_Journal dx (fl_Journal (.int (j.boot : Int)) (.int ((j.gen + 1 : Nat) : Int)) (.int (rwS j ds : Int)) (.int ((newQ j ds).length : Int)) (.ref l)))) l' (.lst xs)) p (.ins T.a_Journal dx (fl_Journal (.int (j.boot : Int)) (.int ((j.gen + 1 : Nat) : Int)) (.int (rwS j ds : Int)) (.int ((newQ j ds).length : Int)) (.ref l')))) l' = some (.lst xs) := (upd_ne nlp).trans upd_same
          generalize upd (upd (upd G5 p (.ins T.a_Journal dx (fl_Journal (.int (j.boot : Int)) (.int ((j.gen + 1 : Nat) : Int)) (.int (rwS j ds : Int)) (.int ((newQ j ds).length : Int)) (.ref l)))) l' (.lst xs)) p (.ins T.a_Journal dx (fl_Journal (.int (j.boot : Int)) (.int ((j.gen + 1 : Nat) : Int)) (.int (rwS j ds : Int)) (.int ((newQ j ds).length : Int)) (.ref l'))) = G6 at ft6 fr6 ob6 l6
          have n2p : p2 ≠ p := fun z => by rw [z, ob1] at hp2; cases hp2
          have e6 := fr6 _ _ e5 (by simpa using n2p)
          have esc6 := fr6 _ _ esc (by simpa using fun z => by rw [z, ob5] at esc; cases esc)
          have hw6 := hw5.ft ft6
          have hds6 := dpa_good (ds := ds) ((FT.same s16).trans ft6) hgd hds
          have ft06 : FT H G6 := (FT.same s16).trans ft6
          have fr06 : Fr [p] H G6 := (Fr.same s16).trans fr6
          clear ft6 fr6 e5 esc hw5 s16 aG5
          -- return
          refine ⟨_, rfl, (by show 1 ≤ sizeLine; decide), fun t1 ht1 => ⟨_, rfl, _, _, rfl, rfl, (by show (0 : Int) < _; decide), _, rfl, (by show 3 ≤ sizeLine; decide), fun t2 ht2 => ⟨(by show 1 ≤ sizeLine; decide), fun t3 ht3 => ⟨(by show 3 ≤ sizeLine; decide), fun pl hpl => ?_⟩⟩⟩⟩
          have em : ((j.gen + 1 : Nat) : Int) % 2 = (((j.gen + 1) % 2 : Nat) : Int) := by omega
          dsimp only at ht3 hpl ⊢
          rw [em] at ht3 hpl ⊢
          have s7 := same_upd (o := .tup [.str "sync"]) ht1
          have s8 := same_upd (o := .tup [.str "write", .int (((j.gen + 1) % 2 : Nat) : Int), .ref psc]) ht2
          have s9 := same_upd (o := .tup [.str "sync"]) ht3
          have s10 := same_upd (o := .lst [.ref t1, .ref t2, .ref t3]) hpl
          have k1 := s10 _ _ (s9 _ _ (s8 _ _ (upd_same (H := G6) (a := t1) (o := .tup [.str "sync"]))))
          have k2 := s10 _ _ (s9 _ _ (upd_same (H := upd G6 t1 (.tup [.str "sync"])) (a := t2) (o := .tup [.str "write", .int (((j.gen + 1) % 2 : Nat) : Int), .ref psc])))
          have k3 := s10 _ _ (upd_same (H := upd (upd G6 t1 (.tup [.str "sync"])) t2 (.tup [.str "write", .int (((j.gen + 1) % 2 : Nat) : Int), .ref psc])) (a := t3) (o := .tup [.str "sync"]))
          have s610 := ((s7.trans s8).trans s9).trans s10
          have k4 : (upd (upd (upd (upd G6 t1 (.tup [.str "sync"])) t2 (.tup [.str "write", .int (((j.gen + 1) % 2 : Nat) : Int), .ref psc])) t3 (.tup [.str "sync"])) pl (.lst [.ref t1, .ref t2, .ref t3])) pl = some (.lst [.ref t1, .ref t2, .ref t3]) := upd_same
          clear s7 s8 s9 s10
          generalize upd (upd (upd (upd G6 t1 (.tup [.str "sync"])) t2 (.tup [.str "write", .int (((j.gen + 1) % 2 : Nat) : Int), .ref psc])) t3 (.tup [.str "sync"])) pl (.lst [.ref t1, .ref t2, .ref t3]) = G7 at k1 k2 k3 k4 s610
          have hwl : ws.length = (newQ j ds).length := hw6.l
          refine ⟨p2, pl, ws, _, rfl, rfl, s610 _ _ e6, k4, sz (by simp only [List.length_cons, List.length_nil]; omega), fun q' hq' => ?_⟩
          have s11 := same_upd (o := .lst (ws ++ [.ref t1, .ref t2, .ref t3])) hq'
          have s611 := s610.trans s11
          have ob7 := s610 _ _ ob6
          have l7 := s610 _ _ l6
          have hq6 := none_of s610 hq'
          have hq0 : H q' = none := none_fr fr06 hq6 (fun y hy => by rw [List.mem_singleton.mp hy, ob6]; simp)
          have hl0' : H l' = none := none_of (s12.trans sG5) hl5
          refine q q' _ l' _ hq0 hl0' (fun z => by rw [z, l7] at hq'; cases hq') (fun x o hx hn => s611 _ _ (fr06 _ _ hx hn)) (ft06.trans (FT.same s611)) ⟨⟨dx, s611 _ _ ob6⟩, ⟨xs, s611 _ _ l6, dpa_same s611 _ hds6⟩, hgd⟩ upd_same ?_
          exact ((hw6.same s611).stp).app (.cons ⟨t1, rfl, sqt (s11 _ _ k1)⟩ (.cons ⟨t2, psc, rfl, sqt (s11 _ _ k2), sqt (s611 _ _ esc6)⟩ (.cons ⟨t3, rfl, sqt (s11 _ _ k3)⟩ .nil)))
end
/-! the law's records and sectors -/
structure RecD (d : PyData) : Prop where
  o : okV 20 d = true
  s : smD d = true
  l : (pkL d).length ≤ 200
theorem RecD.good {d : PyData} (h : RecD d) : GoodD d := ⟨h.o, by have := h.l; omega⟩
def abS : Str := "ab c/-9Z"
theorem ab_at : ∀ j : Nat, j < 8 → (abS.cps.toList[j]?).any plainC = true := by decide +kernel
theorem ab_len : abS.length = 8 := by decide +kernel
theorem bits_sm {n : Int} (h : n.natAbs < 2000000) : bitsOk n = true := by
  unfold bitsOk Builtin.Int.intBits
  refine decide_eq_true ?_
  by_cases h0 : n = 0
  · rw [h0]; decide
  · have hb : (n == 0) = false := by simpa using h0
    rw [hb]
    simp only [Bool.false_eq_true, if_false]
    have := (Nat.log2_lt (show n.natAbs ≠ 0 by omega)).mpr (show n.natAbs < 2 ^ 30 by omega)
    omega
theorem pk_int_len {n : Int} (h : n.natAbs < 2000000) : (pkL (.int n)).length ≤ 4 := by
  by_cases hn : n < 0
  · rw [show pkL (.int n) = 4 :: enc (-1 - n).toNat by simp [pkL, hn]]
    have := enc3 (show (-1 - n).toNat < 2097152 by omega)
    rw [List.length_cons]
    omega
  · rw [show pkL (.int n) = 3 :: enc n.toNat by simp [pkL, hn]]
    have := enc3 (show n.toNat < 2097152 by omega)
    rw [List.length_cons]
    omega
theorem pk_str_len {x : Str} (hl : x.length ≤ 190) : (pkL (.str x)).length ≤ x.length + 4 := by
  have e : pkL (.str x) = 5 :: (enc x.length ++ x.cps.toList.map fun (c : Nat) => (c : Int) - 32) := by simp [pkL]
  have hle := enc3 (show x.length < 2097152 by omega)
  rw [e]
  simp only [List.length_cons, List.length_append, List.length_map, ← zlen]
  omega
theorem rec_non : RecD .none := ⟨by simp [okV], by simp [smD], by simp [pkL]⟩
theorem rec_int {n : Int} (h : n.natAbs < 2000000) : RecD (.int n) := ⟨by simpa [okV] using bits_sm h, by simp only [smD, Bool.and_eq_true, decide_eq_true_eq]; omega, by have := pk_int_len h; omega⟩
theorem rec_str {x : Str} (hl : x.length ≤ 190) (hp : plainS x = true) : RecD (.str x) := ⟨by rw [okV_str, hp, Bool.and_true]; exact decide_eq_true (by omega), by simp [smD], by have := pk_str_len hl; omega⟩
theorem rec_tup {x : Str} {m n : Int} {b : Bool} (hl : x.length ≤ 6) (hp : plainS x = true) (hm : m.natAbs < 2000000) (hn : n.natAbs < 2000000) : RecD (.tuple [.str x, .int m, .tuple [.int n, .str x], .bool b]) := by
  have h1 := rec_str (x := x) (by omega) hp
  have h2 := rec_int hm
  have h3 := rec_int hn
  have e1 : okV 19 (.str x) = true := by have := h1.o; rw [okV_str] at this ⊢; exact this
  have e2 : okV 19 (.int m) = true := by simpa [okV] using bits_sm hm
  have e3 : okV 18 (.int n) = true := by simpa [okV] using bits_sm hn
  have e4 : okV 18 (.str x) = true := by rw [okV_str] at e1 ⊢; exact e1
  have e5 : okV 19 (.bool b) = true := okV_bl 19 b
  have e6 : okV 19 (.tuple [.int n, .str x]) = true := by
    rw [okV_tup]
    simp only [okA, e3, e4, Bool.and_true]
    rfl
  refine ⟨?_, ?_, ?_⟩
  · rw [okV_tup]
    simp only [okA, e1, e2, e5, e6, Bool.and_true]
    rfl
  · simp only [smD, smA, Bool.and_true]
    have := h2.s
    have := h3.s
    simp only [smD] at *
    simp [*]
  · have l1 := pk_str_len (x := x) (by omega)
    have l2 := pk_int_len hm
    have l3 := pk_int_len hn
    have q2 : enc 2 = [2] := enc_small (by decide)
    have q4 : enc 4 = [4] := enc_small (by decide)
    have lb : (pkL (.bool b)).length ≤ 1 := by cases b <;> simp [pkL]
    rw [show pkL (.tuple [.str x, .int m, .tuple [.int n, .str x], .bool b]) = 6 :: 4 :: (pkL (.str x) ++ (pkL (.int m) ++ ((6 :: 2 :: (pkL (.int n) ++ pkL (.str x))) ++ pkL (.bool b)))) by simp only [pkL, pkA, List.length_cons, List.length_nil, q2, q4]; simp [pkL, pkA, q2, q4]]
    simp only [List.length_cons, List.length_append]
    omega
def sp_lrec (K : PySem.W.Frag) : Sp := fun vs H Q _ => ∃ (a : Addr) (ds : List Int), vs = [.ref a] ∧ SqL K H a (ds.map V.int) ∧ Drawn ds ∧ 8 ≤ ds.length ∧ ∀ v d H', Same H H' → Dp K H' v d → RecD d → Q v H'
def sp_lsec (K : PySem.W.Frag) : Sp := fun vs H Q _ => ∃ (a : Addr) (kind : Int) (pl : List Int), vs = [.int kind, .ref a] ∧ H a = some (.lst (pl.map V.int)) ∧ pl.length ≤ 58 ∧ ∀ p H', Same H H' → H' p = some (.tup ((sec (secBody kind pl)).map V.int)) → Q (.ref p) H'
section
variable {P : Program} {w : World} {K : PySem.W.Frag} {mg : Str → Option Value} {base : Heap}
theorem ok__law_record (T : TX K mg) : FnOk P w K mg base CX0 1 T.a__law_record T.d__law_record ["draws"] (sp_lrec K) := by
  refine T.F__law_record.ok sc__law_record (fun vs H Q E h => ?_) (fun cdv A outer s H vs Q E hr h => ?_)
  · obtain ⟨a, ds, rfl, _⟩ := h
    rfl
  · obtain ⟨a, ds, rfl, hS, hd, hl, q⟩ := h
    refine ⟨_, (pss_cons (ps_set (i := 1) sc__law_record.nd rfl (Or.inl rfl) (pe_op op_mod (pe_callTy call_int1 (by rfl) T.n_int (by decide +kernel) (pa_cons (pe_ix ix_list (pv 0) pe_int (fun _ _ => rfl)) pa_nil)) pe_int))
      (pss_cons (ps_if (pt_cmpR op_eq (pv 1) pe_int (nomark _)) (pss_one (ps_ret pe_non)) pss_nil)
      (pss_cons (ps_if (pt_cmpR op_eq (pv 1) pe_int (nomark _)) (pss_one (ps_ret (pe_op op_add (pe_op op_mul (pe_ix ix_list (pv 0) pe_int (fun _ _ => rfl)) pe_int) (pe_ix ix_list (pv 0) pe_int (fun _ _ => rfl))))) pss_nil)
      (pss_cons (ps_set (i := 2) sc__law_record.nd rfl (Or.inl rfl) (pe_join pe_str (pe_lc (own := [("draw", 3)]) (g := gName 3) (tt := tYes) (by rfl) sc__law_record.nd (pi_list (pe_slice sl_list (pv 0) (po_some pe_int) (po_some (pe_op op_add pe_int (pe_op op_mod (pe_callTy call_int1 (by rfl) T.n_int (by decide +kernel) (pa_cons (pe_ix ix_list (pv 0) pe_int (fun _ _ => rfl)) pa_nil)) pe_int))))) (blkOk_by (own := [("draw", 3)]) (N := ["draws", "kind", "word", "draw"]) (sc := defScope s__law_record) (by decide +kernel)) (fun _ _ _ _ _ => pg_name (i := 3) sc__law_record.nd rfl (Or.inl rfl)) (fun _ _ _ _ _ => pts_nil) (fun _ _ _ _ _ => (pe_ix ix_str pe_str (pe_op op_mod (pe_callTy call_int1 (by rfl) T.n_int (by decide +kernel) (pa_cons (pv 3) pa_nil)) pe_int) (fun _ _ => rfl))))))
      (C8.pss_cut (ps_if (pt_cmpR op_eq (pv 1) pe_int (nomark _)) (pss_one (ps_set (i := 2) sc__law_record.nd rfl (Or.inl rfl) (pe_op op_repS (pv 2) (pe_op op_add pe_int (pe_op op_mod (pe_callTy call_int1 (by rfl) T.n_int (by decide +kernel) (pa_cons (pe_ix ix_list (pv 0) pe_int (fun _ _ => rfl)) pa_nil)) pe_int))))) pss_nil)
      (pss_cons (ps_if (pt_cmpR op_lt (pv 1) pe_int (nomark _)) (pss_one (ps_ret (pv 2))) pss_nil)
      (pss_one (ps_ret (pe_tup (pa_cons (pv 2) (pa_cons (pe_ix ix_list (pv 0) pe_int (fun _ _ => rfl)) (pa_cons (pe_tup (pa_cons (pe_op op_sub (pe_ix ix_list (pv 0) pe_int (fun _ _ => rfl)) pe_int) (pa_cons (pv 2) pa_nil))) (pa_cons (pe_cmpR op_eq (pe_op op_mod (pe_ix ix_list (pv 0) pe_int (fun _ _ => rfl)) pe_int) pe_int (nomark _)) pa_nil))))))))))))), ?_⟩
    have gt : ∀ {k : Nat} (h : k < ds.length), atI (ds.map V.int) (k : Int) = some (.int ds[k]) := fun h => at_map (List.getElem?_eq_getElem h)
    have hb : ∀ {k : Nat} (h : k < ds.length), 0 ≤ ds[k] ∧ ds[k] < 997 := fun h => hd _ (List.getElem_mem h)
    have hb0 := hb (show 0 < ds.length by omega)
    have hb1 := hb (show 1 < ds.length by omega)
    have hb2 := hb (show 2 < ds.length by omega)
    refine ⟨_, rfl, a, _, 0, .int ds[0], rfl, rfl, hS, gt (k := 0) (by omega), .inl ⟨_, rfl, _, _, rfl, rfl, (by show (0 : Int) < _; decide), ?_⟩⟩
    refine ⟨_, rfl, rfl, _, rfl, ifd (fun hx => q .non .none H (Same.refl _) .non rec_non) (fun hx => ?_)⟩
    refine ⟨_, rfl, rfl, _, rfl, ifd (fun hx1 => ?_) (fun hx1 => ?_)⟩
    · exact ⟨_, rfl, a, _, 1, .int ds[1], rfl, rfl, hS, gt (k := 1) (by omega), _, _, rfl, rfl, .inl ⟨by omega, by omega⟩, _, rfl, a, _, 2, .int ds[2], rfl, rfl, hS, gt (k := 2) (by omega), _, _, rfl, rfl, q _ (.int (ds[1] * 997 + ds[2])) H (Same.refl _) (.int _) (rec_int (by omega))⟩
    obtain ⟨j, hj⟩ : ∃ j : Nat, (1 : Int) + ds[2] % 7 = (j : Int) := ⟨((1 : Int) + ds[2] % 7).toNat, by omega⟩
    refine ⟨⟨_, rfl⟩, ?_⟩
    have l1 : ((ds.drop 1).take (j - 1)).length ≤ 6 := by rw [List.length_take, List.length_drop]; omega
    refine ⟨_, rfl, 1, rfl, _, rfl, a, _, 2, .int ds[2], rfl, rfl, hS, gt (k := 2) (by omega), .inl ⟨_, rfl, _, _, rfl, rfl, (by show (0 : Int) < _; decide), _, _, rfl, rfl, _, rfl, a, _, rfl, hS, fun p hp => ?_⟩⟩
    dsimp only
    rw [cut_ints ds (i := 1) (j := j) (a := 1) rfl hj]
    have s1 := same_upd (o := .lst (((ds.drop 1).take (j - 1)).map V.int)) hp
    have ep : (upd H p (.lst (((ds.drop 1).take (j - 1)).map V.int))) p = some (.lst (((ds.drop 1).take (j - 1)).map V.int)) := upd_same
    generalize (ds.drop 1).take (j - 1) = part at l1 s1 ep
    generalize upd H p (.lst (part.map V.int)) = G1 at s1 ep
    refine ⟨p, rfl, ⟨_, sql ep⟩, fun D hD => ?_⟩
    refine lc_it (walk_list (K := K) (a := p) (xs := part.map V.int)) (fun i G => Same G1 G ∧ ∃ cs : List Nat, G D = some (.lst ((cs.map fun c => (⟨#[c]⟩ : Str)).map V.str)) ∧ (∀ c ∈ cs, plainC c = true) ∧ cs.length = i) ⟨same_upd hD, [], upd_same, (fun _ z => by cases z), rfl⟩ (fun i G _ h => h.1.seq (sql ep)) ?_ ?_
    · rintro i x G G' hi ⟨s2, cs, e2, hp2, hl2⟩ ⟨rfl, hx⟩
      rw [List.length_map] at hi
      obtain ⟨z, hz, rfl⟩ := map_at hx
      refine ⟨rfl, ?_⟩
      dsimp only [tYes]
      refine (if_pos rfl).mpr ?_
      obtain ⟨jj, hjj⟩ := Int.eq_ofNat_of_zero_le (Int.emod_nonneg z (show (8 : Int) ≠ 0 by decide))
      have hj2 : jj < 8 := by have := Int.emod_lt_of_pos z (show (0 : Int) < 8 by decide); omega
      have hat := ab_at jj hj2
      obtain ⟨c, hc, hpc⟩ : ∃ c, abS.cps.toList[jj]? = some c ∧ plainC c = true := by
        cases e : abS.cps.toList[jj]? with
        | none => rw [e] at hat; cases hat
        | some c => exact ⟨c, rfl, by rw [e] at hat; exact hat⟩
      refine ⟨_, rfl, .inl ⟨_, rfl, _, _, rfl, rfl, (by show (0 : Int) < _; decide), _, _, c, rfl, rfl, (show abS.length ≤ sizeLine from by rw [ab_len]; exact sz (by decide)), (by rw [hjj]; exact atI_nat hc), ?_⟩⟩
      refine ⟨_, e2, szl (by rw [List.length_map, List.length_map]; omega), same_put s2 hD, cs ++ [c], ?_, ?_, by rw [List.length_append, hl2]; rfl⟩
      · rw [upd_same, List.map_append, List.map_append]; rfl
      · intro y hy
        rcases List.mem_append.mp hy with w | w
        · exact hp2 y w
        · rw [List.mem_singleton] at w
          rw [w]
          exact hpc
    · rintro G ⟨s2, cs, e2, hp2, hl2⟩
      rw [List.length_map] at hl2
      refine ⟨"", D, cs.map fun c => (⟨#[c]⟩ : Str), rfl, rfl, .inl (sql e2), ?_, ?_⟩
      · rw [signs_len, List.length_map]
        show cs.length + cs.length * 0 ≤ _
        omega
      rw [join_signs]
      have hw : plainS ⟨cs.toArray⟩ = true := by
        unfold plainS
        rw [List.all_eq_true]
        exact fun x hx => hp2 x (by simpa using hx)
      have hwl : Str.length ⟨cs.toArray⟩ ≤ 6 := by
        show cs.toArray.size ≤ 6
        rw [List.size_toArray]
        omega
      have s12 := s1.trans s2
      generalize (⟨cs.toArray⟩ : Str) = wd at hw hwl
      refine ⟨fun σ' G' => ∃ wd : Str, plainS wd = true ∧ wd.length ≤ 190 ∧ (ds[0] % 8 ≠ 2 → wd.length ≤ 6) ∧ σ' = [some (.ref a), some (.int (ds[0] % 8)), some (.str wd), none] ∧ G = G', ?_, ?_⟩
      · refine ⟨_, rfl, rfl, _, rfl, ifd (fun hx => ?_) (fun hx => ⟨wd, hw, by omega, fun _ => hwl, rfl, rfl⟩)⟩
        have hb3 := hb (show 3 < ds.length by omega)
        refine ⟨_, rfl, _, rfl, a, _, 3, .int ds[3], rfl, rfl, s12.seq hS, gt (k := 3) (by omega), .inl ⟨_, rfl, _, _, rfl, rfl, (by show (0 : Int) < _; decide), _, _, rfl, rfl, ?_⟩⟩
        have hn1 : 1 ≤ 1 + ds[3] % 30 ∧ 1 + ds[3] % 30 ≤ 30 := by omega
        have hml : (1 + ds[3] % 30).toNat * wd.length ≤ 30 * 6 := Nat.mul_le_mul (by omega) hwl
        refine ⟨wd, 1 + ds[3] % 30, rfl, rfl, hn1.1, by omega, by omega, PySem.Txt.mul wd (1 + ds[3] % 30), ?_, by rw [mul_len hn1.1]; omega, fun h => absurd (V.int.inj hx) h, rfl, rfl⟩
        unfold plainS at hw ⊢
        rw [mul_list hn1.1]
        rw [List.all_eq_true] at hw ⊢
        intro c hc
        obtain ⟨l, hl, hcl⟩ := List.mem_flatten.mp hc
        rw [List.eq_of_mem_replicate hl] at hcl
        exact hw c hcl
      · rintro σ _ ⟨wd, hw, hwl, hw6, rfl, rfl⟩
        have hb4 := hb (show 4 < ds.length by omega)
        have hb5 := hb (show 5 < ds.length by omega)
        refine ⟨_, rfl, _, _, rfl, rfl, _, rfl, ifd (fun hlt => ⟨_, rfl, q _ (.str wd) _ s12 (.str wd) (rec_str hwl hw)⟩) (fun hge => ?_)⟩
        refine ⟨_, rfl, _, rfl, a, _, 4, .int ds[4], rfl, rfl, s12.seq hS, gt (k := 4) (by omega), _, rfl, a, _, 5, .int ds[5], rfl, rfl, s12.seq hS, gt (k := 5) (by omega), _, _, rfl, rfl, _, rfl, (by show 2 ≤ sizeLine; decide), fun pi hpi => ?_⟩
        have s3 := s12.trans (same_upd (o := .tup [.int (ds[5] - 400), .str wd]) hpi)
        refine ⟨_, rfl, a, _, 6, .int ds[6], rfl, rfl, s3.seq hS, gt (k := 6) (by omega), _, _, rfl, rfl, (by show (0 : Int) < _; decide), rfl, (by show 4 ≤ sizeLine; decide), fun pt hpt => ?_⟩
        have s4 := same_upd (o := .tup [.str wd, .int ds[4], .ref pi, .bl (decide (V.int (ds[6] % 2) = V.int 0))]) hpt
        exact q _ (.tuple [.str wd, .int ds[4], .tuple [.int (ds[5] - 400), .str wd], .bool (decide (V.int (ds[6] % 2) = V.int 0))]) _ (s3.trans s4) (.tup (sqt upd_same) (.cons (.str wd) (.cons (.int _) (.cons (.tup (sqt (s4 _ _ upd_same)) (.cons (.int _) (.cons (.str wd) .nil))) (.cons (.bl _) .nil))))) (rec_tup (hw6 (by omega)) hw (by omega) (by omega))
end
def sp_lparts (K : PySem.W.Frag) : Sp := fun vs H Q _ => ∃ (v : V) (d : PyData), vs = [v] ∧ Dp K H v d ∧ RecD d ∧ ∀ H', Same H H' → Q (.int (pc (pkL d).length : Int)) H'
def sp_lwrites (K : PySem.W.Frag) : Sp := fun vs H Q _ => ∃ (v : V) (d : PyData) (n g b r : Nat), vs = [v, .int (n : Int), .int (g : Int), .int (b : Int), .int (r : Int)] ∧ Dp K H v d ∧ RecD d ∧ g < 2097152 ∧ b < 2097152 ∧ r < 2097152 ∧
  ∀ p ws H', H p = none → Same H H' → H' p = some (.lst ws) → WrA K H' ws n (partsOf g b r (pkL d)) → Q (.ref p) H'
def setD (D : List Sc) (i : Nat) (s : Sc) : List Sc := (D ++ List.replicate (i + 1 - D.length) Sc.blank).set i s
def putAll : List Sc → Nat → List Sc → List Sc
  | D, _, [] => D
  | D, n, s :: ss => putAll (setD D n s) (n + 1) ss
def sp_lwrite (K : PySem.W.Frag) : Sp := fun vs H Q _ => ∃ (a : Addr) (xs : List V) (D : List Sc) (i : Nat) (v : V) (s : Sc), vs = [.ref a, .int (i : Int), v] ∧ H a = some (.lst xs) ∧ SvA K H xs D ∧ Sv K H v s ∧ ScOk s ∧ D.length ≤ 50000 ∧ i < 50000 ∧
  ∀ p ys H', H p = none → Same H H' → H' p = some (.lst ys) → SvA K H' ys (setD D i s) → Q (.ref p) H'
theorem setD_len (D : List Sc) (i : Nat) (s : Sc) : (setD D i s).length = max D.length (i + 1) := by
  unfold setD
  rw [List.length_set, List.length_append, List.length_replicate]
  omega
theorem SvA.put {K : PySem.W.Frag} {H : Hp} {xs : List V} {D : List Sc} {i : Nat} {v b : V} {s : Sc} (h : SvA K H xs D) (hb : Sv K H b Sc.blank) (hv : Sv K H v s) (ho : ScOk s) : SvA K H ((xs ++ List.replicate (i + 1 - xs.length) b).set i v) (setD D i s) := by
  have hl := h.l
  unfold setD
  refine ⟨by rw [List.length_set, List.length_set, List.length_append, List.length_append, List.length_replicate, List.length_replicate, hl], fun j t ht => ?_, fun t ht => ?_⟩
  · by_cases hj : i = j
    · subst hj
      have hlt : i < (D ++ List.replicate (i + 1 - D.length) Sc.blank).length := by rw [List.length_append, List.length_replicate]; omega
      rw [List.getElem?_set_self hlt] at ht
      cases ht
      exact ⟨v, by rw [List.getElem?_set_self (by rw [List.length_append, List.length_replicate]; omega)], hv⟩
    · rw [List.getElem?_set_ne hj] at ht ⊢
      by_cases hd : j < D.length
      · rw [List.getElem?_append_left hd] at ht
        rw [List.getElem?_append_left (by omega)]
        exact h.a j t ht
      · rw [List.getElem?_append_right (by omega), List.getElem?_replicate] at ht
        rw [List.getElem?_append_right (by omega), List.getElem?_replicate]
        split at ht
        · next hc =>
          cases ht
          exact ⟨b, by rw [hl, if_pos hc], hb⟩
        · cases ht
  · rcases List.mem_or_eq_of_mem_set ht with h1 | rfl
    · rcases List.mem_append.mp h1 with h2 | h2
      · exact h.o t h2
      · rw [(List.mem_replicate.mp h2).2]; exact True.intro
    · exact ho
section
variable {P : Program} {w : World} {K : PySem.W.Frag} {mg : Str → Option Value} {base : Heap}
theorem el_num {σ : L2.St} {H : Hp} {i : Nat} {z : Int} {n : Nat} {E : XK} (h : σ[i]? = some (some (.int z))) (hz : z = (n : Int)) (hn : n ≤ 1000000000000) : EL (tCall (sp_lnum K) [] E (tCons (tVar i) tNil)) σ H ((enc n).map V.int) :=
  el_call (ea_cons (ei_var h) ea_nil) fun _ _ _ k => ⟨n, congrArg (fun y => [V.int y]) hz, limL_small hn, fun p H' _ s e => k p H' s e⟩
theorem ok__law_write (T : TX K mg) : FnOk P w K mg base CX0 1 T.a__law_write T.d__law_write ["disk", "index", "sector"] (sp_lwrite K) := by
  refine T.F__law_write.ok sc__law_write (fun vs H Q E h => ?_) (fun cdv A outer s H vs Q E hr h => ?_)
  · obtain ⟨a, xs, D, i, v, s', rfl, _⟩ := h
    rfl
  · obtain ⟨a, xs, D, i, v, s', rfl, hS, hD, hv, hok, hDl, hi, q⟩ := h
    refine ⟨_, (pss_cons (ps_set (i := 3) sc__law_write.nd rfl (Or.inl rfl) (pe_op op_cat (pv 0) (pe_op op_rep (pe_lst (pa_cons (pe_op op_repT (pe_tup (pa_cons pe_int pa_nil)) pe_int) pa_nil)) (pe_callB (call_max2 rfl) (by rfl) T.n_max (by decide +kernel) (pa_cons pe_int (pa_cons (pe_op op_sub (pe_op op_add (pv 1) pe_int) (pe_callB call_len_seq (by rfl) T.n_len PySem.boot_len (pa_cons (pv 0) pa_nil))) pa_nil))))))
      (pss_cons (ps_asg (pv 2) (pg_sub (pv 3) (pv 1) set_list))
      (pss_one (ps_ret (pv 3))))), ?_⟩
    have hxl := hD.l
    refine ⟨_, rfl, (by show 1 ≤ sizeLine; decide), fun p1 hp1 => ?_⟩
    have s1 := same_upd (o := .tup [.int 0]) hp1
    refine ⟨p1, 64, [.int 0], rfl, rfl, sqt upd_same, (by simp), by decide, by decide, by decide, fun p2 hp2 => ?_⟩
    have e64 : (List.replicate (64 : Int).toNat [V.int 0]).flatten = (List.replicate 64 (0 : Int)).map V.int := rep0 64
    rw [e64]
    have s2 := s1.trans (same_upd (o := .tup ((List.replicate 64 (0 : Int)).map V.int)) hp2)
    have e2 : (upd (upd H p1 (.tup [.int 0])) p2 (.tup ((List.replicate 64 (0 : Int)).map V.int))) p2 = some (.tup ((List.replicate 64 (0 : Int)).map V.int)) := upd_same
    generalize upd (upd H p1 (.tup [.int 0])) p2 (.tup ((List.replicate 64 (0 : Int)).map V.int)) = H2 at s2 e2
    refine ⟨(by show 1 ≤ sizeLine; decide), fun p3 hp3 => ?_⟩
    have s3 := s2.trans (same_upd (o := .lst [.ref p2]) hp3)
    have e3 : (upd H2 p3 (.lst [.ref p2])) p3 = some (.lst [.ref p2]) := upd_same
    have e23 := same_upd (o := .lst [.ref p2]) hp3 _ _ e2
    generalize upd H2 p3 (.lst [.ref p2]) = H3 at s3 e3 e23
    obtain ⟨N, hN⟩ : ∃ N : Int, N = (if (i : Int) + 1 - (xs.length : Int) > 0 then (i : Int) + 1 - (xs.length : Int) else 0) := ⟨_, rfl⟩
    have hNn : N.toNat = i + 1 - xs.length := by rw [hN]; split <;> omega
    have hN1 : N ≤ 50000 ∧ 0 ≤ N := by rw [hN]; split <;> omega
    refine ⟨_, rfl, _, _, rfl, rfl, _, rfl, a, xs, rfl, .inl (sql (s3 _ _ hS)), _, _, rfl, rfl, _, _, rfl, ?_⟩
    rw [← hN]
    refine ⟨p3, N, [.ref p2], rfl, rfl, e3, by omega, by omega, sz (by simp only [List.length_cons, List.length_nil]; omega), fun p4 hp4 => ?_⟩
    rw [List.flatten_replicate_singleton, hNn]
    have s4 := s3.trans (same_upd (o := .lst (List.replicate (i + 1 - xs.length) (.ref p2))) hp4)
    have e4 : (upd H3 p4 (.lst (List.replicate (i + 1 - xs.length) (.ref p2)))) p4 = some (.lst (List.replicate (i + 1 - xs.length) (.ref p2))) := upd_same
    have e24 := same_upd (o := .lst (List.replicate (i + 1 - xs.length) (.ref p2))) hp4 _ _ e23
    generalize upd H3 p4 (.lst (List.replicate (i + 1 - xs.length) (.ref p2))) = H4 at s4 e4 e24
    refine ⟨a, p4, xs, _, rfl, rfl, s4 _ _ hS, e4, sz (by rw [List.length_replicate]; omega), fun p5 hp5 => ?_⟩
    refine ⟨_, rfl, _, rfl, _, rfl, p5, _, _, i, rfl, rfl, upd_same, ?_, _, rfl, ?_⟩
    · unfold ixN
      rw [if_pos (by omega), if_pos (by rw [List.length_append, List.length_replicate]; omega)]
      rfl
    · have hb : Sv K H4 (.ref p2) Sc.blank := ⟨p2, rfl, sqt e24⟩
      have hA := SvA.put (i := i) (hD.same s4) hb (hv.same s4) hok
      have s5 := same_upd (o := .lst (xs ++ List.replicate (i + 1 - xs.length) (.ref p2))) hp5
      refine q p5 _ _ (none_of s4 hp5) (same_put (s4.trans s5) (none_of s4 hp5)) upd_same ?_
      exact ((hA.same s5).ft (FT.up upd_same rfl))
end
/-- a step carried out -/
def carry1 (D : List Sc) : Stp → List Sc
  | .wr n s => setD D n s
  | .sync => D
def carry (D : List Sc) (ts : List Stp) : List Sc := ts.foldl carry1 D
theorem carry_app (D : List Sc) (ts rs : List Stp) : carry D (ts ++ rs) = carry (carry D ts) rs := List.foldl_append
theorem carry_wrs : ∀ (ss D : List Sc) (n : Nat), carry D (wrs n ss) = putAll D n ss
  | [], _, _ => rfl
  | s :: ss, D, n => carry_wrs ss (setD D n s) (n + 1)
def StpOk : Stp → Prop
  | .wr n s => ScOk s ∧ n < 40000
  | .sync => True
theorem carry_len {N : Nat} (hN : 40000 ≤ N) : ∀ (ts : List Stp) (D : List Sc), D.length ≤ N → (∀ t ∈ ts, StpOk t) → (carry D ts).length ≤ N
  | [], D, h, _ => h
  | t :: ts, D, h, ho => by
    refine carry_len hN ts (carry1 D t) ?_ fun u hu => ho u (by simp [hu])
    have := ho t (by simp)
    cases t with
    | sync => exact h
    | wr n s => show (setD D n s).length ≤ N; rw [setD_len]; have := this.2; omega
/-! what lies on a disk behind appends, rewrites and falls -/
theorem scAt_lt {D : List Sc} {i : Nat} {s : Sc} (h : D[i]? = some s) : scAt D i = s := by unfold scAt; rw [h]; rfl
theorem scAt_ge {D : List Sc} {i : Nat} (h : D.length ≤ i) : scAt D i = .blank := by unfold scAt; rw [List.getElem?_eq_none h]; rfl
theorem scAt_app {A B : List Sc} {i : Nat} : scAt (A ++ B) i = if i < A.length then scAt A i else scAt B (i - A.length) := by
  unfold scAt
  by_cases h : i < A.length
  · rw [if_pos h, List.getElem?_append_left h]
  · rw [if_neg h, List.getElem?_append_right (by omega)]
theorem scAt_setD (D : List Sc) (i : Nat) (s : Sc) (j : Nat) : scAt (setD D i s) j = if j = i then s else scAt D j := by
  unfold setD
  have hlt : i < (D ++ List.replicate (i + 1 - D.length) Sc.blank).length := by rw [List.length_append, List.length_replicate]; omega
  by_cases h : j = i
  · subst h
    rw [if_pos rfl]
    exact scAt_lt (List.getElem?_set_self hlt)
  · rw [if_neg h]
    unfold scAt
    rw [List.getElem?_set_ne (fun z => h z.symm)]
    by_cases hd : j < D.length
    · rw [List.getElem?_append_left hd]
    · rw [List.getElem?_append_right (by omega), List.getElem?_replicate, List.getElem?_eq_none (by omega)]
      split <;> rfl
theorem scAt_putAll : ∀ (ss D : List Sc) (n j : Nat), scAt (putAll D n ss) j = if n ≤ j ∧ j < n + ss.length then scAt ss (j - n) else scAt D j
  | [], D, n, j => by rw [putAll, if_neg (by simp only [List.length_nil]; omega)]
  | s :: ss, D, n, j => by
    rw [putAll, scAt_putAll ss (setD D n s) (n + 1) j, scAt_setD]
    simp only [List.length_cons]
    by_cases h : j = n
    · subst h
      rw [if_neg (by omega), if_pos rfl, if_pos (by omega), Nat.sub_self]
      rfl
    · rw [if_neg h]
      by_cases h2 : n + 1 ≤ j ∧ j < n + 1 + ss.length
      · rw [if_pos h2, if_pos (by omega), show j - n = (j - (n + 1)) + 1 by omega]
        rfl
      · rw [if_neg h2, if_neg (by omega)]
theorem rdMore_of {D : List Sc} {n g b r : Nat} {row : List Int} (h : ∀ k, k < pc row.length → scAt D (n + k) = partOf g b r row k) : ∀ (f k : Nat), k + f = pc row.length → rdMore D n g b r (pc row.length) k f (row.take (40 * k)) = some row
  | 0, k, hk => by
    rw [rdMore, List.take_of_length_le]
    have : k = pc row.length := by omega
    rw [this]; unfold pc; omega
  | f + 1, k, hk => by
    rw [rdMore, h k (by omega)]
    unfold partOf
    dsimp only
    rw [if_pos ⟨rfl, rfl, rfl, rfl, rfl⟩]
    have e : row.take (40 * k) ++ (row.drop (40 * k)).take 40 = row.take (40 * (k + 1)) := by
      rw [show 40 * (k + 1) = 40 * k + 40 by omega, List.take_add]
    rw [e]
    exact rdMore_of h f (k + 1) (by omega)
theorem pc_pos {row : List Int} (h : 0 < row.length) : 0 < pc row.length := by unfold pc; omega
theorem rdRec_of {D : List Sc} {n g b r least : Nat} {row : List Int} (hp : 0 < row.length) (h : ∀ k, k < pc row.length → scAt D (n + k) = partOf g b r row k) (hl : least ≤ b) : rdRec D n g r least = some (b, row) := by
  have h0 := h 0 (pc_pos hp)
  rw [Nat.add_zero] at h0
  unfold rdRec
  rw [h0]
  unfold partOf
  dsimp only
  rw [if_pos ⟨rfl, rfl, rfl, hl⟩]
  have := rdMore_of h (pc row.length - 1) 1 (by have := pc_pos hp; omega)
  rw [show 40 * 0 = 0 by rfl, List.drop_zero]
  rw [show 40 * 1 = 40 by rfl] at this
  rw [this]
  rfl
def lay (g : Nat) : Nat → List (Nat × PyData) → List Sc
  | _, [] => []
  | i, bd :: h => partsOf g bd.1 i (pkL bd.2) ++ lay g (i + 1) h
theorem lay_app (g : Nat) : ∀ (i : Nat) (h k : List (Nat × PyData)), lay g i (h ++ k) = lay g i h ++ lay g (i + h.length) k
  | i, [], k => rfl
  | i, x :: h, k => by rw [List.cons_append, lay, lay, lay_app g (i + 1) h k, List.append_assoc, List.length_cons, show i + 1 + h.length = i + (h.length + 1) by omega]
theorem lay_new (g b : Nat) : ∀ (i : Nat) (ds : List PyData), lay g i (ds.map fun d => (b, d)) = allParts g b i (ds.map pkL)
  | i, [] => rfl
  | i, d :: ds => by rw [List.map_cons, lay, List.map_cons, allParts, lay_new g b (i + 1) ds]
theorem parts_len (g b r : Nat) (row : List Int) : (partsOf g b r row).length = pc row.length := by unfold partsOf; rw [List.length_map, List.length_range]
theorem parts_at {g b r : Nat} {row : List Int} {k : Nat} (h : k < pc row.length) : (partsOf g b r row)[k]? = some (partOf g b r row k) := by
  unfold partsOf
  rw [List.getElem?_map, List.getElem?_range h]
  rfl
theorem pk_pos (d : PyData) : 0 < (pkL d).length ∨ ∀ n, okV n d = false := by
  cases d with
  | none => exact .inl (by simp [pkL])
  | bool b => exact .inl (by cases b <;> simp [pkL])
  | int i => exact .inl (by by_cases h : i < 0 <;> simp [pkL, h])
  | str x => exact .inl (by simp [pkL])
  | tuple ds => exact .inl (by simp [pkL])
  | list ds => exact .inr fun n => okV_lst n ds
  | dict ds => exact .inr fun n => by cases n <;> simp [okV]
theorem GoodD.pos {d : PyData} (h : GoodD d) : 0 < (pkL d).length := by
  rcases pk_pos d with h1 | h1
  · exact h1
  · have := h.1; rw [h1 20] at this; cases this
/-- what is laid out is a part of this generation -/
def isPt (g : Nat) (P : Nat → Prop) : Sc → Prop
  | .part g' b .. => g' = g ∧ P b
  | _ => False
theorem lay_pt {g : Nat} {P : Nat → Prop} : ∀ (h : List (Nat × PyData)) (i k : Nat), (∀ bd ∈ h, P bd.1) → k < (lay g i h).length → isPt g P (scAt (lay g i h) k)
  | [], i, k, _, hk => by simp [lay] at hk
  | bd :: h, i, k, hP, hk => by
    rw [lay] at hk ⊢
    rw [scAt_app, parts_len]
    rw [List.length_append, parts_len] at hk
    by_cases hc : k < pc (pkL bd.2).length
    · rw [if_pos hc, scAt_lt (parts_at hc)]
      exact ⟨rfl, hP bd (by simp)⟩
    · rw [if_neg hc]
      exact lay_pt h (i + 1) _ (fun x hx => hP x (by simp [hx])) (by omega)
/-- boots do not fall -/
def Asc (least : Nat) : List (Nat × PyData) → Prop
  | [] => True
  | bd :: h => least ≤ bd.1 ∧ Asc bd.1 h
def lastB : Nat → List (Nat × PyData) → Nat
  | hb, [] => hb
  | _, bd :: h => lastB bd.1 h
theorem lastB_app (b : Nat) : ∀ (hb : Nat) (h : List (Nat × PyData)) (ds : List PyData), ds ≠ [] → lastB hb (h ++ ds.map fun d => (b, d)) = b
  | hb, bd :: h, ds, hd => by rw [List.cons_append, lastB]; exact lastB_app b bd.1 h ds hd
  | hb, [], d :: ds, _ => by
    rw [List.nil_append, List.map_cons, lastB]
    cases ds with
    | nil => rfl
    | cons e ds => exact lastB_app b b [] (e :: ds) (by simp)
theorem lastB_all (b : Nat) : ∀ ds : List PyData, lastB b (ds.map fun d => (b, d)) = b
  | [] => rfl
  | d :: ds => by rw [List.map_cons, lastB]; exact lastB_all b ds
theorem Asc.rep {b : Nat} : ∀ {least : Nat} (ds : List PyData), least ≤ b → Asc least (ds.map fun d => (b, d))
  | _, [], _ => True.intro
  | _, _ :: ds, hl => ⟨hl, Asc.rep ds (Nat.le_refl b)⟩
theorem Asc.app {b : Nat} : ∀ {least : Nat} {h : List (Nat × PyData)} {ds : List PyData}, Asc least h → (∀ bd ∈ h, bd.1 ≤ b) → least ≤ b → Asc least (h ++ ds.map fun d => (b, d))
  | _, [], ds, _, _, hl => Asc.rep ds hl
  | _, bd :: h, ds, ha, hb, _ => ⟨ha.1, Asc.app ha.2 (fun x hx => hb x (by simp [hx])) (hb bd (by simp))⟩
/-- the other head is older -/
def HdLt (g : Nat) : Sc → Prop
  | .blank => True
  | .head g' _ _ => g' < g
  | .part .. => False
/-- a sector that no record is read from, once boot b has written -/
def OutOk (g b : Nat) : Sc → Prop
  | .blank => True
  | .head .. => False
  | .part g' b' .. => g' < g ∨ b' < b
structure DI (D : List Sc) (g st hb b : Nat) (hist : List (Nat × PyData)) : Prop where
  st2 : 2 ≤ st
  hd : (g = 0 ∧ st = 2 ∧ hb = 0 ∧ scAt D 0 = .blank ∧ scAt D 1 = .blank) ∨ (0 < g ∧ scAt D (g % 2) = .head g st hb ∧ HdLt g (scAt D ((g + 1) % 2)))
  reg : ∀ k, k < (lay g 0 hist).length → scAt D (st + k) = scAt (lay g 0 hist) k
  out : ∀ i, 2 ≤ i → ¬ (st ≤ i ∧ i < st + (lay g 0 hist).length) → OutOk g b (scAt D i)
  asc : Asc hb hist
  hbb : hb ≤ b
  bs : ∀ bd ∈ hist, bd.1 ≤ b
  gd : ∀ bd ∈ hist, GoodD bd.2
  fin : rdRec D (st + (lay g 0 hist).length) g hist.length (lastB hb hist) = none
theorem OutOk.mono {g b b' : Nat} {s : Sc} (h : OutOk g b s) (hb : b ≤ b') : OutOk g b' s := by
  cases s with
  | blank => exact True.intro
  | head => exact h
  | part => exact h.imp id fun z => Nat.lt_of_lt_of_le z hb
theorem OutOk.next {g b : Nat} {s : Sc} (h : OutOk g b s) : OutOk (g + 1) b s := by
  cases s with
  | blank => exact True.intro
  | head => exact h
  | part => exact h.imp (fun z => Nat.lt_succ_of_lt z) id
theorem OutOk.none {D : List Sc} {n g r b : Nat} (h : OutOk g b (scAt D n)) : rdRec D n g r b = none := by
  unfold rdRec
  cases e : scAt D n with
  | blank => rfl
  | head => rfl
  | part g' b' r' p c bs =>
    rw [e] at h
    dsimp only
    exact if_neg fun z => by
      rcases h with h | h
      · omega
      · omega
theorem DI.boot {D : List Sc} {g st hb b b' : Nat} {hist : List (Nat × PyData)} (h : DI D g st hb b hist) (hb' : b ≤ b') : DI D g st hb b' hist :=
  ⟨h.st2, h.hd, h.reg, fun i h2 h3 => (h.out i h2 h3).mono hb', h.asc, Nat.le_trans h.hbb hb', fun bd hbd => Nat.le_trans (h.bs bd hbd) hb', h.gd, h.fin⟩
theorem DI.nw {D : List Sc} {g st hb b : Nat} {hist : List (Nat × PyData)} (h : DI D g st hb b hist) : nwF D 2 = (g, st, hb) ∧ ∀ i, i < 2 → isHd (scAt D i) := by
  rcases h.hd with ⟨rfl, rfl, rfl, h0, h1⟩ | ⟨hg, h0, h1⟩
  · refine ⟨by rw [nwF, nwF, nwF, h0, h1]; rfl, fun i hi => ?_⟩
    match i, hi with
    | 0, _ => rw [h0]; exact True.intro
    | 1, _ => rw [h1]; exact True.intro
  · have hh : ∀ s, HdLt g s → isHd s := fun s hs => by cases s <;> first | exact True.intro | exact hs.elim
    rcases Nat.mod_two_eq_zero_or_one g with hm | hm
    · have hm1 : (g + 1) % 2 = 1 := by omega
      rw [hm] at h0
      rw [hm1] at h1
      refine ⟨?_, fun i hi => ?_⟩
      · rw [nwF, nwF, nwF, h0, show nw1 (.head g st hb) (0, 2, 0) = (g, st, hb) from if_pos hg]
        cases e : scAt D 1 with
        | blank => rfl
        | head g' st' b' =>
          rw [e] at h1
          have : g' < g := h1
          show (if g < g' then (g', st', b') else (g, st, hb)) = _
          rw [if_neg (by omega)]
        | part => rw [e] at h1; exact h1.elim
      · match i, hi with
        | 0, _ => rw [h0]; exact True.intro
        | 1, _ => exact hh _ h1
    · have hm1 : (g + 1) % 2 = 0 := by omega
      rw [hm] at h0
      rw [hm1] at h1
      refine ⟨?_, fun i hi => ?_⟩
      · rw [nwF, nwF, nwF, h0]
        have hlt : (nw1 (scAt D 0) (0, 2, 0)).1 < g := by
          cases e : scAt D 0 with
          | blank => exact hg
          | head g' st' b' =>
            rw [e] at h1
            have : g' < g := h1
            show (if 0 < g' then (g', st', b') else (0, 2, 0)).1 < g
            split
            · exact this
            · exact hg
          | part => rw [e] at h1; exact h1.elim
        show (if (nw1 (scAt D 0) (0, 2, 0)).1 < g then (g, st, hb) else _) = _
        rw [if_pos hlt]
      · match i, hi with
        | 0, _ => exact hh _ h1
        | 1, _ => rw [h0]; exact True.intro
theorem reads_of {D : List Sc} {g st hb : Nat} {hist : List (Nat × PyData)} (hD : ∀ k, k < (lay g 0 hist).length → scAt D (st + k) = scAt (lay g 0 hist) k) (hg : ∀ bd ∈ hist, GoodD bd.2) (fin : rdRec D (st + (lay g 0 hist).length) g hist.length (lastB hb hist) = none) : ∀ (suf pre : List (Nat × PyData)) (least : Nat), hist = pre ++ suf → Asc least suf → lastB least suf = lastB hb hist →
    Reads D g st (lay g 0 pre).length pre.length least (suf.map (·.2)) (lay g 0 hist).length
  | [], pre, least, e, _, hlb => by
    rw [List.append_nil] at e
    rw [← e]
    rw [← hlb] at fin
    exact .nil fin
  | bd :: suf, pre, least, e, ha, hlb => by
    obtain ⟨b, d⟩ := bd
    have hgd : GoodD d := hg (b, d) (by rw [e]; simp)
    have hl : lay g 0 hist = lay g 0 pre ++ (partsOf g b pre.length (pkL d) ++ lay g (pre.length + 1) suf) := by rw [e, lay_app, Nat.zero_add, lay]
    have hlp : (lay g 0 (pre ++ [(b, d)])).length = (lay g 0 pre).length + pc (pkL d).length := by
      rw [lay_app, List.length_append, Nat.zero_add, lay, lay, List.append_nil, parts_len]
    refine .cons (b' := b) (d := d) (rdRec_of hgd.pos (fun k hk => ?_) ha.1) hgd ?_
    · rw [Nat.add_assoc, hD _ (by rw [hl, List.length_append, List.length_append, parts_len]; omega), hl]
      refine scAt_lt ?_
      rw [List.getElem?_append_right (by omega), Nat.add_sub_cancel_left, List.getElem?_append_left (by rw [parts_len]; exact hk)]
      exact parts_at hk
    · have := reads_of hD hg fin suf (pre ++ [(b, d)]) b (by rw [e, List.append_assoc]; rfl) ha.2 hlb
      rw [hlp, List.length_append] at this
      exact this
theorem DI.reads {D : List Sc} {g st hb b : Nat} {hist : List (Nat × PyData)} (h : DI D g st hb b hist) : Reads D g st 0 0 hb (hist.map (·.2)) (lay g 0 hist).length := reads_of h.reg h.gd h.fin hist [] hb rfl h.asc rfl
theorem mem_new {b : Nat} {hist : List (Nat × PyData)} {ds : List PyData} {P : Nat × PyData → Prop} (h1 : ∀ bd ∈ hist, P bd) (h2 : ∀ d ∈ ds, P (b, d)) : ∀ bd ∈ hist ++ ds.map (fun d => (b, d)), P bd := fun bd hbd => by
  rcases List.mem_append.mp hbd with h | h
  · exact h1 bd h
  · obtain ⟨d, hd, rfl⟩ := List.mem_map.mp h
    exact h2 d hd
theorem DI.empty (b : Nat) : DI [] 0 2 0 b [] := by
  have hb : ∀ i, scAt [] i = .blank := fun i => rfl
  refine ⟨Nat.le_refl 2, .inl ⟨rfl, rfl, rfl, rfl, rfl⟩, fun k hk => by simp [lay] at hk, fun i _ _ => by rw [hb]; exact True.intro, True.intro, Nat.zero_le _, (fun bd h => by cases h), (fun bd h => by cases h), ?_⟩
  unfold rdRec
  rw [hb]
/-- an append -/
theorem DI.append {D : List Sc} {g st hb b : Nat} {hist : List (Nat × PyData)} (h : DI D g st hb b hist) (ds : List PyData) (hg : ∀ d ∈ ds, GoodD d) :
    DI (putAll D (st + (lay g 0 hist).length) (allParts g b hist.length (ds.map pkL))) g st hb b (hist ++ ds.map fun d => (b, d)) := by
  cases hds : ds with
  | nil => rw [List.map_nil, allParts, putAll, List.map_nil, List.append_nil]; exact h
  | cons d0 ds0 =>
    have hne : ds ≠ [] := by rw [hds]; simp
    rw [← hds]
    have e : lay g 0 (hist ++ ds.map fun d => (b, d)) = lay g 0 hist ++ allParts g b hist.length (ds.map pkL) := by rw [lay_app, Nat.zero_add, lay_new]
    have st2 := h.st2
    have out : ∀ i, 2 ≤ i → ¬ (st ≤ i ∧ i < st + (lay g 0 (hist ++ ds.map fun d => (b, d))).length) → OutOk g b (scAt (putAll D (st + (lay g 0 hist).length) (allParts g b hist.length (ds.map pkL))) i) := fun i h2 h3 => by
      rw [e, List.length_append] at h3
      rw [scAt_putAll, if_neg (by omega)]
      exact h.out i h2 (by omega)
    refine ⟨h.st2, ?_, fun k hk => ?_, out, h.asc.app h.bs h.hbb, h.hbb, mem_new h.bs fun _ _ => Nat.le_refl b, mem_new h.gd hg, ?_⟩
    · have hs : ∀ i, i < 2 → scAt (putAll D (st + (lay g 0 hist).length) (allParts g b hist.length (ds.map pkL))) i = scAt D i := fun i hi => by rw [scAt_putAll, if_neg (by omega)]
      rw [hs 0 (by decide), hs 1 (by decide), hs _ (Nat.mod_lt _ (by decide)), hs _ (Nat.mod_lt _ (by decide))]
      exact h.hd
    · rw [e] at hk ⊢
      rw [List.length_append] at hk
      rw [scAt_putAll, scAt_app]
      by_cases hc : k < (lay g 0 hist).length
      · rw [if_neg (by omega), if_pos hc]; exact h.reg k hc
      · rw [if_pos (by omega), if_neg hc, show st + k - (st + (lay g 0 hist).length) = k - (lay g 0 hist).length by omega]
    · rw [lastB_app b hb hist ds hne]
      exact (out _ (by omega) (by omega)).none
/-- a rewrite: where the new records go -/
theorem newSt_2 {st used m : Nat} (h : 2 ≤ st) : 2 ≤ newSt st used m := by unfold newSt; split <;> omega
theorem DI.rewrite {D : List Sc} {g st hb b : Nat} {hist : List (Nat × PyData)} (h : DI D g st hb b hist) (ds : List PyData) (hg : ∀ d ∈ ds, GoodD d) (s' : Nat) (hs' : 2 ≤ s') :
    DI (setD (putAll D s' (allParts (g + 1) b 0 (ds.map pkL))) ((g + 1) % 2) (.head (g + 1) s' b)) (g + 1) s' b b (ds.map fun d => (b, d)) := by
  have e : lay (g + 1) 0 (ds.map fun d => (b, d)) = allParts (g + 1) b 0 (ds.map pkL) := lay_new _ _ _ _
  have hm : (g + 1) % 2 < 2 := Nat.mod_lt _ (by decide)
  have hsc : ∀ i, 2 ≤ i → scAt (setD (putAll D s' (allParts (g + 1) b 0 (ds.map pkL))) ((g + 1) % 2) (.head (g + 1) s' b)) i = if s' ≤ i ∧ i < s' + (allParts (g + 1) b 0 (ds.map pkL)).length then scAt (allParts (g + 1) b 0 (ds.map pkL)) (i - s') else scAt D i := fun i hi => by
    rw [scAt_setD, if_neg (by omega), scAt_putAll]
  have hsl : ∀ i, i < 2 → i ≠ (g + 1) % 2 → scAt (setD (putAll D s' (allParts (g + 1) b 0 (ds.map pkL))) ((g + 1) % 2) (.head (g + 1) s' b)) i = scAt D i := fun i hi hne => by
    rw [scAt_setD, if_neg hne, scAt_putAll, if_neg (by omega)]
  have out : ∀ i, 2 ≤ i → ¬ (s' ≤ i ∧ i < s' + (lay (g + 1) 0 (ds.map fun d => (b, d))).length) → OutOk (g + 1) b (scAt (setD (putAll D s' (allParts (g + 1) b 0 (ds.map pkL))) ((g + 1) % 2) (.head (g + 1) s' b)) i) := fun i h2 h3 => by
    rw [e] at h3
    rw [hsc i h2, if_neg h3]
    by_cases hr : st ≤ i ∧ i < st + (lay g 0 hist).length
    · have hp := lay_pt (g := g) (P := fun _ => True) hist 0 (i - st) (fun _ _ => True.intro) (by omega)
      rw [← h.reg (i - st) (by omega), show st + (i - st) = i by omega] at hp
      cases ec : scAt D i with
      | blank => exact True.intro
      | head => rw [ec] at hp; exact hp.elim
      | part g' b' _ _ _ _ => rw [ec] at hp; exact .inl (by have := hp.1; omega)
    · exact (h.out i h2 hr).next
  refine ⟨hs', .inr ⟨by omega, ?_, ?_⟩, fun k hk => ?_, out, Asc.rep ds (Nat.le_refl b), Nat.le_refl b, fun bd hbd => ?_, fun bd hbd => ?_, ?_⟩
  · rw [scAt_setD, if_pos rfl]
  · have e2 : (g + 1 + 1) % 2 = g % 2 := by omega
    rw [e2, hsl _ (Nat.mod_lt _ (by decide)) (by omega)]
    rcases h.hd with ⟨rfl, _, _, h0, _⟩ | ⟨_, h0, _⟩
    · rw [show 0 % 2 = 0 from rfl, h0]; exact True.intro
    · rw [h0]; exact Nat.lt_succ_self g
  · rw [e] at hk ⊢
    rw [hsc _ (by omega), if_pos (by omega), show s' + k - s' = k by omega]
  · obtain ⟨d, _, rfl⟩ := List.mem_map.mp hbd; exact Nat.le_refl _
  · obtain ⟨d, hd, rfl⟩ := List.mem_map.mp hbd; exact hg d hd
  · rw [lastB_all]
    exact (out _ (by omega) (by omega)).none
/-! disks that are torn -/
theorem rdMore_congr {D D' : List Sc} (h : ∀ i, scAt D' i = scAt D i) (at' g b r c : Nat) : ∀ (f k : Nat) (acc : List Int), rdMore D' at' g b r c k f acc = rdMore D at' g b r c k f acc
  | 0, k, acc => rfl
  | f + 1, k, acc => by
    rw [rdMore, rdMore, h]
    cases scAt D (at' + k) with
    | blank => rfl
    | head => rfl
    | part g' b' r' p' c' bs =>
      dsimp only
      split
      · exact rdMore_congr h at' g b r c f (k + 1) _
      · rfl
theorem rdRec_congr {D D' : List Sc} (h : ∀ i, scAt D' i = scAt D i) (n g r l : Nat) : rdRec D' n g r l = rdRec D n g r l := by
  unfold rdRec
  rw [h]
  cases scAt D n with
  | blank => rfl
  | head => rfl
  | part g' b r' p c bs =>
    dsimp only
    split
    · rw [rdMore_congr h]
    · rfl
theorem DI.congr {D D' : List Sc} {g st hb b : Nat} {hist : List (Nat × PyData)} (h : DI D g st hb b hist) (e : ∀ i, scAt D' i = scAt D i) : DI D' g st hb b hist :=
  ⟨h.st2, by rw [e, e, e, e]; exact h.hd, fun k hk => by rw [e]; exact h.reg k hk, fun i h2 h3 => by rw [e]; exact h.out i h2 h3, h.asc, h.hbb, h.bs, h.gd, by rw [rdRec_congr e]; exact h.fin⟩
theorem rdMore_parts {D : List Sc} {n g b r c : Nat} : ∀ (f k : Nat) (acc row : List Int), k + f = c → rdMore D n g b r c k f acc = some row → ∀ j, k ≤ j → j < c → ∃ bs, scAt D (n + j) = .part g b r j c bs
  | 0, k, acc, row, hk, _, j, h1, h2 => by omega
  | f + 1, k, acc, row, hk, h, j, h1, h2 => by
    rw [rdMore] at h
    cases e : scAt D (n + k) with
    | blank => rw [e] at h; cases h
    | head => rw [e] at h; cases h
    | part g' b' r' p' c' bs =>
      rw [e] at h
      dsimp only at h
      split at h
      · next hc =>
        obtain ⟨rfl, rfl, rfl, rfl, rfl⟩ := hc
        by_cases hj : j = p'
        · subst hj; exact ⟨bs, e⟩
        · exact rdMore_parts f (p' + 1) _ row (by omega) h j (by omega) h2
      · cases h
/-- what a reading says -/
theorem rdRec_parts {D : List Sc} {n g r l b : Nat} {row : List Int} (h : rdRec D n g r l = some (b, row)) : l ≤ b ∧ ∃ c bs, scAt D n = .part g b r 0 c bs ∧ ∀ j, 1 ≤ j → j < c → ∃ bs, scAt D (n + j) = .part g b r j c bs := by
  unfold rdRec at h
  cases e : scAt D n with
  | blank => rw [e] at h; cases h
  | head => rw [e] at h; cases h
  | part g' b' r' p' c' bs =>
    rw [e] at h
    dsimp only at h
    split at h
    · next hc =>
      obtain ⟨rfl, rfl, rfl, hl⟩ := hc
      cases hm : rdMore D n g' b' r' c' 1 (c' - 1) bs with
      | none => rw [hm] at h; cases h
      | some row' =>
        rw [hm] at h
        have h2 := Option.some.inj h
        have hb : b' = b := congrArg Prod.fst h2
        subst hb
        refine ⟨hl, c', bs, rfl, fun j h1 hj => ?_⟩
        exact rdMore_parts (c' - 1) 1 bs row' (by omega) hm j h1 hj
    · cases h
theorem rdMore_same {D D' : List Sc} {n g b r c : Nat} (h : ∀ j, scAt D' (n + j) = scAt D (n + j) ∨ ¬ isPt g (· = b) (scAt D' (n + j))) : ∀ (f k : Nat) (acc row : List Int), rdMore D' n g b r c k f acc = some row → rdMore D n g b r c k f acc = some row
  | 0, k, acc, row, e => e
  | f + 1, k, acc, row, e => by
    rw [rdMore] at e ⊢
    rcases h k with hk | hk
    · rw [hk] at e
      cases es : scAt D (n + k) with
      | blank => rw [es] at e; cases e
      | head => rw [es] at e; cases e
      | part g' b' r' p' c' bs =>
        rw [es] at e
        dsimp only at e ⊢
        split at e
        · next hc => rw [if_pos hc]; exact rdMore_same h f (k + 1) _ row e
        · cases e
    · cases es : scAt D' (n + k) with
      | blank => rw [es] at e; cases e
      | head => rw [es] at e; cases e
      | part g' b' r' p' c' bs =>
        rw [es] at e hk
        dsimp only at e
        split at e
        · next hc => exact absurd ⟨hc.1, hc.2.1⟩ hk
        · cases e
/-- a reading that meets no new sector was there before -/
theorem rdRec_same {D D' : List Sc} {n g r l b : Nat} {row : List Int} (h : ∀ j, scAt D' (n + j) = scAt D (n + j) ∨ ¬ isPt g (· = b) (scAt D' (n + j))) (e : rdRec D' n g r l = some (b, row)) : rdRec D n g r l = some (b, row) := by
  obtain ⟨_, c, bs, h0, _⟩ := rdRec_parts e
  have h0' : scAt D n = .part g b r 0 c bs := by
    rcases h 0 with k | k
    · rw [Nat.add_zero] at k; rw [← k]; exact h0
    · rw [Nat.add_zero, h0] at k; exact absurd ⟨rfl, rfl⟩ k
  unfold rdRec at e ⊢
  rw [h0] at e
  rw [h0']
  dsimp only at e ⊢
  split at e
  · next hc =>
    rw [if_pos hc]
    cases hm : rdMore D' n g b r c 1 (c - 1) bs with
    | none => rw [hm] at e; cases e
    | some row' => rw [hm] at e; rw [rdMore_same h _ _ _ _ hm]; exact e
  · cases e
def Torn (D : List Sc) (U : List (Nat × Sc)) (D' : List Sc) : Prop := ∀ i, scAt D' i = scAt D i ∨ ∃ s, (i, s) ∈ U ∧ scAt D' i = s
def prs : Nat → List Sc → List (Nat × Sc)
  | _, [] => []
  | n, s :: ss => (n, s) :: prs (n + 1) ss
theorem prs_len : ∀ (n : Nat) (ss : List Sc), (prs n ss).length = ss.length
  | _, [] => rfl
  | n, s :: ss => by rw [prs, List.length_cons, List.length_cons, prs_len (n + 1) ss]
theorem prs_mem : ∀ {n : Nat} {ss : List Sc} {i : Nat} {s : Sc}, (i, s) ∈ prs n ss → n ≤ i ∧ i < n + ss.length ∧ s = scAt ss (i - n)
  | n, [], i, s, h => by cases h
  | n, x :: ss, i, s, h => by
    rw [prs] at h
    rw [List.length_cons]
    rcases List.mem_cons.mp h with h | h
    · cases h
      exact ⟨Nat.le_refl _, by omega, by rw [Nat.sub_self]; rfl⟩
    · obtain ⟨h1, h2, h3⟩ := prs_mem h
      refine ⟨by omega, by omega, ?_⟩
      rw [h3, show i - n = (i - (n + 1)) + 1 by omega]
      rfl
theorem prs_take : ∀ (n m : Nat) (ss : List Sc), (prs n ss).take m = prs n (ss.take m)
  | n, 0, ss => by simp [prs]
  | n, m + 1, [] => rfl
  | n, m + 1, s :: ss => by rw [prs, List.take_succ_cons, List.take_succ_cons, prs, prs_take (n + 1) m ss]
/-- an interrupted append: some of its first records may be there -/
theorem DI.tornApp {D D' : List Sc} {g st hb b : Nat} {hist : List (Nat × PyData)} (h : DI D g st hb b hist) {ds : List PyData} (hg : ∀ d ∈ ds, GoodD d) {U : List (Nat × Sc)}
    (hU : ∀ i s, (i, s) ∈ U → st + (lay g 0 hist).length ≤ i ∧ i < st + (lay g 0 hist).length + (allParts g b hist.length (ds.map pkL)).length ∧ s = scAt (allParts g b hist.length (ds.map pkL)) (i - (st + (lay g 0 hist).length)))
    (hT : Torn D U D') : ∃ m, m ≤ ds.length ∧ DI D' g st hb (b + 1) (hist ++ (ds.take m).map fun d => (b, d)) := by
  have st2 := h.st2
  have e : ∀ m, lay g 0 (hist ++ (ds.take m).map fun d => (b, d)) = lay g 0 hist ++ allParts g b hist.length ((ds.take m).map pkL) := fun m => by rw [lay_app, Nat.zero_add, lay_new]
  have esplit : ∀ m, allParts g b hist.length (ds.map pkL) = allParts g b hist.length ((ds.take m).map pkL) ++ allParts g b (hist.length + (ds.take m).length) ((ds.drop m).map pkL) := fun m => by
    conv => lhs; rw [← List.take_append_drop m ds, List.map_append, allParts_app, List.length_map]
  -- a sector of the new ones, or one as before
  have new : ∀ i, scAt D' i = scAt D i ∨ (st + (lay g 0 hist).length ≤ i ∧ i < st + (lay g 0 hist).length + (allParts g b hist.length (ds.map pkL)).length ∧ scAt D' i = scAt (allParts g b hist.length (ds.map pkL)) (i - (st + (lay g 0 hist).length))) := fun i => by
    rcases hT i with k | ⟨s, hs, k⟩
    · exact .inl k
    · obtain ⟨h1, h2, h3⟩ := hU i s hs
      exact .inr ⟨h1, h2, by rw [k, h3]⟩
  have newpt : ∀ k, k < (allParts g b hist.length (ds.map pkL)).length → isPt g (· = b) (scAt (allParts g b hist.length (ds.map pkL)) k) := fun k hk => by
    rw [← lay_new] at hk ⊢
    exact lay_pt _ _ _ (fun bd hbd => by obtain ⟨d, _, rfl⟩ := List.mem_map.mp hbd; rfl) hk
  have old : ∀ i, st + (lay g 0 hist).length ≤ i → OutOk g b (scAt D i) := fun i hi => h.out i (by omega) (by omega)
  have noold : ∀ i, st + (lay g 0 hist).length ≤ i → isPt g (· = b) (scAt D' i) → i < st + (lay g 0 hist).length + (allParts g b hist.length (ds.map pkL)).length ∧ scAt D' i = scAt (allParts g b hist.length (ds.map pkL)) (i - (st + (lay g 0 hist).length)) := fun i hi hp => by
    rcases new i with k | ⟨_, h2, h3⟩
    · have ho := old i hi
      rw [← k] at ho
      cases es : scAt D' i with
      | blank => rw [es] at hp; exact hp.elim
      | head => rw [es] at hp; exact hp.elim
      | part g' b' r p c bs =>
        rw [es] at hp ho
        obtain ⟨rfl, hb'⟩ := hp
        have hb' : b' = b := hb'
        rcases ho with z | z <;> omega
    · exact ⟨h2, h3⟩
  have s01 : ∀ i, i < 2 → scAt D' i = scAt D i := fun i hi => by
    rcases new i with k | ⟨h1, _⟩
    · exact k
    · omega
  have fin_ : ∀ m, (∀ k, k < (allParts g b hist.length ((ds.take m).map pkL)).length → scAt D' (st + (lay g 0 hist).length + k) = scAt (allParts g b hist.length ((ds.take m).map pkL)) k) →
      rdRec D' (st + (lay g 0 (hist ++ (ds.take m).map fun d => (b, d))).length) g (hist ++ (ds.take m).map fun d => (b, d)).length (lastB hb (hist ++ (ds.take m).map fun d => (b, d))) = none → DI D' g st hb (b + 1) (hist ++ (ds.take m).map fun d => (b, d)) := fun m hr hn => by
    have hds : ∀ d ∈ ds.take m, GoodD d := fun d hd => hg d (List.mem_of_mem_take hd)
    refine ⟨st2, by rw [s01 0 (by decide), s01 1 (by decide), s01 _ (Nat.mod_lt _ (by decide)), s01 _ (Nat.mod_lt _ (by decide))]; exact h.hd, fun k hk => ?_, fun i h2 h3 => ?_, h.asc.app h.bs h.hbb, Nat.le_succ_of_le h.hbb, mem_new (fun bd hbd => Nat.le_succ_of_le (h.bs bd hbd)) fun _ _ => Nat.le_succ b, mem_new h.gd hds, hn⟩
    · rw [e] at hk ⊢
      rw [List.length_append] at hk
      rw [scAt_app]
      by_cases hc : k < (lay g 0 hist).length
      · rw [if_pos hc, ← h.reg k hc]
        rcases new (st + k) with z | ⟨h1, _⟩
        · exact z
        · omega
      · rw [if_neg hc, ← hr _ (by omega)]
        congr 1
        omega
    · rw [e, List.length_append] at h3
      rcases new i with z | ⟨h1, h2', h3'⟩
      · rw [z]; exact (h.out i h2 (by omega)).mono (Nat.le_succ b)
      · rw [h3']
        have hp := newpt _ (show i - (st + (lay g 0 hist).length) < _ by omega)
        cases es : scAt (allParts g b hist.length (ds.map pkL)) (i - (st + (lay g 0 hist).length)) with
        | blank => exact True.intro
        | head => rw [es] at hp; exact hp.elim
        | part g' b' r p c bs =>
          rw [es] at hp
          have hb' : b' = b := hp.2
          exact .inr (by omega)
  have nextA : ∀ m (hlt : m < ds.length), allParts g b hist.length ((ds.take (m + 1)).map pkL) = allParts g b hist.length ((ds.take m).map pkL) ++ partsOf g b (hist.length + m) (pkL ds[m]) := fun m hlt => by
    rw [List.take_succ_eq_append_getElem hlt, List.map_append, allParts_app, List.length_map, List.length_take, Nat.min_eq_left (by omega)]
    show _ ++ (partsOf _ _ _ _ ++ []) = _
    rw [List.append_nil]
  have stuck : ∀ m, m ≤ ds.length → ∀ br, rdRec D' (st + (lay g 0 (hist ++ (ds.take m).map fun d => (b, d))).length) g (hist ++ (ds.take m).map fun d => (b, d)).length (lastB hb (hist ++ (ds.take m).map fun d => (b, d))) = some br →
      ∃ hlt : m < ds.length, ∀ k, k < pc (pkL ds[m]).length → scAt D' (st + (lay g 0 hist).length + ((allParts g b hist.length ((ds.take m).map pkL)).length + k)) = partOf g b (hist.length + m) (pkL ds[m]) k := fun m hm br hrd => by
    obtain ⟨b', row⟩ := br
    have hlen : (hist ++ (ds.take m).map fun d => (b, d)).length = hist.length + m := by rw [List.length_append, List.length_map, List.length_take]; omega
    rw [e, List.length_append (as := lay g 0 hist), hlen] at hrd
    obtain ⟨hlast, c, bs, h0, hmore⟩ := rdRec_parts hrd
    by_cases hbe : b' = b
    · subst hbe
      obtain ⟨h2, h3⟩ := noold (st + ((lay g 0 hist).length + (allParts g b' hist.length ((ds.take m).map pkL)).length)) (by omega) (by rw [h0]; exact ⟨rfl, rfl⟩)
      have hA := esplit m
      have hlt : m < ds.length := by
        rcases Nat.lt_or_ge m ds.length with hl | hl
        · exact hl
        · rw [List.drop_of_length_le hl] at hA
          rw [hA, List.length_append] at h2
          simp only [List.map_nil, allParts, List.length_nil] at h2
          omega
      refine ⟨hlt, ?_⟩
      rw [List.drop_eq_getElem_cons hlt, List.map_cons, allParts, List.length_take, Nat.min_eq_left hm] at hA
      have hat : ∀ k, k < pc (pkL ds[m]).length → scAt (allParts g b' hist.length (ds.map pkL)) ((allParts g b' hist.length ((ds.take m).map pkL)).length + k) = partOf g b' (hist.length + m) (pkL ds[m]) k := fun k hk => by
        rw [hA, scAt_app, if_neg (by omega), Nat.add_sub_cancel_left, scAt_app, if_pos (by rw [parts_len]; exact hk)]
        exact scAt_lt (parts_at hk)
      have hpos := pc_pos (hg _ (List.getElem_mem hlt)).pos
      have hc : c = pc (pkL ds[m]).length := by
        have z := hat 0 hpos
        rw [Nat.add_zero] at z
        rw [h0, show st + ((lay g 0 hist).length + (allParts g b' hist.length ((ds.take m).map pkL)).length) - (st + (lay g 0 hist).length) = (allParts g b' hist.length ((ds.take m).map pkL)).length by omega, z] at h3
        unfold partOf at h3
        cases h3
        rfl
      intro k hk
      have hpt : isPt g (· = b') (scAt D' (st + ((lay g 0 hist).length + (allParts g b' hist.length ((ds.take m).map pkL)).length) + k)) := by
        rcases Nat.eq_zero_or_pos k with rfl | hk0
        · rw [Nat.add_zero, h0]; exact ⟨rfl, rfl⟩
        · obtain ⟨bs', hbs⟩ := hmore k hk0 (by omega)
          rw [hbs]; exact ⟨rfl, rfl⟩
      obtain ⟨_, h5⟩ := noold _ (by omega) hpt
      rw [← hat k hk]
      rw [show st + (lay g 0 hist).length + ((allParts g b' hist.length ((ds.take m).map pkL)).length + k) = st + ((lay g 0 hist).length + (allParts g b' hist.length ((ds.take m).map pkL)).length) + k by omega, h5]
      congr 1
      omega
    · exfalso
      have hs := rdRec_same (D := D) (fun j => by
        rcases new (st + ((lay g 0 hist).length + (allParts g b hist.length ((ds.take m).map pkL)).length) + j) with z | ⟨_, h2, h3⟩
        · exact .inl z
        · refine .inr fun hp => hbe ?_
          rw [h3] at hp
          have hq := newpt _ (show st + ((lay g 0 hist).length + (allParts g b hist.length ((ds.take m).map pkL)).length) + j - (st + (lay g 0 hist).length) < _ by omega)
          cases es : scAt (allParts g b hist.length (ds.map pkL)) (st + ((lay g 0 hist).length + (allParts g b hist.length ((ds.take m).map pkL)).length) + j - (st + (lay g 0 hist).length)) with
          | blank => rw [es] at hq; exact hq.elim
          | head => rw [es] at hq; exact hq.elim
          | part g'' b'' r p c bs =>
            rw [es] at hp hq
            have e1 : b'' = b' := hp.2
            have e2 : b'' = b := hq.2
            omega) hrd
      rcases Nat.eq_zero_or_pos m with rfl | hm0
      · have hf := h.fin
        simp only [List.take_zero, List.map_nil, allParts, List.length_nil, Nat.add_zero, List.append_nil] at hs
        rw [hf] at hs
        cases hs
      · cases hdm : ds.take m with
        | nil =>
          have hl0 := congrArg List.length hdm
          rw [List.length_take, List.length_nil] at hl0
          omega
        | cons d0 dr =>
          have hla := lastB_app b hb hist (ds.take m) (by rw [hdm]; simp)
          obtain ⟨_, c', bs', h0', _⟩ := rdRec_parts hs
          have ho := old (st + ((lay g 0 hist).length + (allParts g b hist.length ((ds.take m).map pkL)).length)) (by omega)
          rw [h0'] at ho
          rw [hla] at hlast
          rcases ho with z | z <;> omega
  have main : ∀ j m, ds.length - m = j → m ≤ ds.length → (∀ k, k < (allParts g b hist.length ((ds.take m).map pkL)).length → scAt D' (st + (lay g 0 hist).length + k) = scAt (allParts g b hist.length ((ds.take m).map pkL)) k) → ∃ m, m ≤ ds.length ∧ DI D' g st hb (b + 1) (hist ++ (ds.take m).map fun d => (b, d)) := by
    intro j
    induction j with
    | zero =>
      intro m hj hm hr
      refine ⟨m, hm, fin_ m hr ?_⟩
      cases hrd : rdRec D' (st + (lay g 0 (hist ++ (ds.take m).map fun d => (b, d))).length) g (hist ++ (ds.take m).map fun d => (b, d)).length (lastB hb (hist ++ (ds.take m).map fun d => (b, d))) with
      | none => rfl
      | some br => exact (stuck m (by omega) br hrd).elim fun hc => absurd hc (by omega)
    | succ j ih =>
      intro m hj hm hr
      cases hrd : rdRec D' (st + (lay g 0 (hist ++ (ds.take m).map fun d => (b, d))).length) g (hist ++ (ds.take m).map fun d => (b, d)).length (lastB hb (hist ++ (ds.take m).map fun d => (b, d))) with
      | none => exact ⟨m, hm, fin_ m hr hrd⟩
      | some br =>
        obtain ⟨hlt, hmore⟩ := stuck m hm br hrd
        refine ih (m + 1) (by omega) (by omega) fun k hk => ?_
        rw [nextA m hlt] at hk ⊢
        rw [List.length_append, parts_len] at hk
        rw [scAt_app]
        by_cases hc : k < (allParts g b hist.length ((ds.take m).map pkL)).length
        · rw [if_pos hc]; exact hr k hc
        · rw [if_neg hc, scAt_lt (parts_at (by omega)), ← hmore _ (by omega)]
          congr 1
          omega
  exact main _ 0 rfl (Nat.zero_le _) fun k hk => by simp [allParts] at hk
/-- an interrupted rewrite: before its head is written the old records are there -/
theorem DI.tornRew {D D' : List Sc} {g st hb b : Nat} {hist : List (Nat × PyData)} (h : DI D g st hb b hist) {ds : List PyData} {U : List (Nat × Sc)}
    (hU : ∀ i s, (i, s) ∈ U → newSt st (lay g 0 hist).length (allParts (g + 1) b 0 (ds.map pkL)).length ≤ i ∧ i < newSt st (lay g 0 hist).length (allParts (g + 1) b 0 (ds.map pkL)).length + (allParts (g + 1) b 0 (ds.map pkL)).length ∧ s = scAt (allParts (g + 1) b 0 (ds.map pkL)) (i - newSt st (lay g 0 hist).length (allParts (g + 1) b 0 (ds.map pkL)).length))
    (hT : Torn D U D') : DI D' g st hb (b + 1) hist := by
  have st2 := h.st2
  have hs' := newSt_2 (used := (lay g 0 hist).length) (m := (allParts (g + 1) b 0 (ds.map pkL)).length) st2
  have hdis : newSt st (lay g 0 hist).length (allParts (g + 1) b 0 (ds.map pkL)).length + (allParts (g + 1) b 0 (ds.map pkL)).length ≤ st ∨ st + (lay g 0 hist).length ≤ newSt st (lay g 0 hist).length (allParts (g + 1) b 0 (ds.map pkL)).length := by
    unfold newSt
    split
    · next hc => exact .inl (by omega)
    · exact .inr (Nat.le_refl _)
  have newpt : ∀ k, k < (allParts (g + 1) b 0 (ds.map pkL)).length → isPt (g + 1) (· = b) (scAt (allParts (g + 1) b 0 (ds.map pkL)) k) := fun k hk => by
    rw [← lay_new] at hk ⊢
    exact lay_pt _ _ _ (fun bd hbd => by obtain ⟨d, _, rfl⟩ := List.mem_map.mp hbd; rfl) hk
  generalize newSt st (lay g 0 hist).length (allParts (g + 1) b 0 (ds.map pkL)).length = s' at hU hs' hdis
  have new : ∀ i, scAt D' i = scAt D i ∨ (s' ≤ i ∧ i < s' + (allParts (g + 1) b 0 (ds.map pkL)).length ∧ isPt (g + 1) (· = b) (scAt D' i)) := fun i => by
    rcases hT i with k | ⟨s, hs, k⟩
    · exact .inl k
    · obtain ⟨h1, h2, h3⟩ := hU i s hs
      exact .inr ⟨h1, h2, by rw [k, h3]; exact newpt _ (by omega)⟩
  have s01 : ∀ i, i < 2 → scAt D' i = scAt D i := fun i hi => by
    rcases new i with k | ⟨h1, _⟩
    · exact k
    · omega
  have sreg : ∀ i, st ≤ i → i < st + (lay g 0 hist).length → scAt D' i = scAt D i := fun i h1 h2 => by
    rcases new i with k | ⟨h3, h4, _⟩
    · exact k
    · omega
  refine ⟨st2, by rw [s01 0 (by decide), s01 1 (by decide), s01 _ (Nat.mod_lt _ (by decide)), s01 _ (Nat.mod_lt _ (by decide))]; exact h.hd, fun k hk => by rw [sreg _ (by omega) (by omega)]; exact h.reg k hk, fun i h2 h3 => ?_, h.asc, Nat.le_succ_of_le h.hbb, fun bd hbd => Nat.le_succ_of_le (h.bs bd hbd), h.gd, ?_⟩
  · rcases new i with k | ⟨_, _, hp⟩
    · rw [k]; exact (h.out i h2 h3).mono (Nat.le_succ b)
    · cases es : scAt D' i with
      | blank => exact True.intro
      | head => rw [es] at hp; exact hp.elim
      | part g' b' r p c bs =>
        rw [es] at hp
        have hb' : b' = b := hp.2
        exact .inr (by omega)
  · cases hrd : rdRec D' (st + (lay g 0 hist).length) g hist.length (lastB hb hist) with
    | none => rfl
    | some br =>
      obtain ⟨b', row⟩ := br
      have hs := rdRec_same (D := D) (fun j => by
        rcases new (st + (lay g 0 hist).length + j) with z | ⟨_, _, hq⟩
        · exact .inl z
        · refine .inr fun hp => ?_
          cases es : scAt D' (st + (lay g 0 hist).length + j) with
          | blank => rw [es] at hq; exact hq.elim
          | head => rw [es] at hq; exact hq.elim
          | part g'' b'' r p c bs =>
            rw [es] at hp hq
            have e1 : g'' = g := hp.1
            have e2 : g'' = g + 1 := hq.1
            omega) hrd
      rw [h.fin] at hs
      cases hs
/-! steps that are not safe yet -/
structure UnB (K : PySem.W.Frag) (H G : Hp) (us : List V) (U : List (Nat × Sc)) : Prop where
  l : us.length = U.length
  a : ∀ (i : Nat) (u : Nat × Sc), U[i]? = some u → ∃ p c v, us[i]? = some (.ref p) ∧ SqT K G p [.int (u.1 : Int), .ref c] ∧ H c = some (.lst [v]) ∧ Sv K H v u.2
abbrev UnA (K : PySem.W.Frag) (H : Hp) (us : List V) (U : List (Nat × Sc)) : Prop := UnB K H H us U
theorem UnB.to {K : PySem.W.Frag} {H G : Hp} {us : List V} {U : List (Nat × Sc)} (h : UnB K H G us U) (s : Same H G) : UnA K G us U :=
  ⟨h.l, fun i u hu => by obtain ⟨p, c, v, h1, h2, h3, h4⟩ := h.a i u hu; exact ⟨p, c, v, h1, h2, s _ _ h3, h4.same s⟩⟩
theorem UnB.same {K : PySem.W.Frag} {H G G' : Hp} {us : List V} {U : List (Nat × Sc)} (h : UnB K H G us U) (s : Same G G') : UnB K H G' us U :=
  ⟨h.l, fun i u hu => by obtain ⟨p, c, v, h1, h2, h3, h4⟩ := h.a i u hu; exact ⟨p, c, v, h1, sqt_same s h2, h3, h4⟩⟩
theorem UnB.ft {K : PySem.W.Frag} {H G G' : Hp} {us : List V} {U : List (Nat × Sc)} (h : UnB K H G us U) (s : FT G G') : UnB K H G' us U :=
  ⟨h.l, fun i u hu => by obtain ⟨p, c, v, h1, h2, h3, h4⟩ := h.a i u hu; exact ⟨p, c, v, h1, sqt_ft s h2, h3, h4⟩⟩
theorem UnA.same {K : PySem.W.Frag} {H G : Hp} {us : List V} {U : List (Nat × Sc)} (h : UnA K H us U) (s : Same H G) : UnA K G us U := (UnB.same h s).to s
theorem UnB.nil {K : PySem.W.Frag} {H G : Hp} : UnB K H G [] [] := ⟨rfl, fun i u h => by simp at h⟩
theorem UnB.app {K : PySem.W.Frag} {H G : Hp} {us ws : List V} {U W : List (Nat × Sc)} (h : UnB K H G us U) (g : UnB K H G ws W) : UnB K H G (us ++ ws) (U ++ W) := by
  refine ⟨by rw [List.length_append, List.length_append, h.l, g.l], fun i s hs => ?_⟩
  by_cases hi : i < U.length
  · rw [List.getElem?_append_left hi] at hs
    obtain ⟨p, c, v, hv, k⟩ := h.a i s hs
    exact ⟨p, c, v, by rw [List.getElem?_append_left (by rw [h.l]; exact hi)]; exact hv, k⟩
  · rw [List.getElem?_append_right (by omega)] at hs
    obtain ⟨p, c, v, hv, k⟩ := g.a _ s hs
    exact ⟨p, c, v, by rw [List.getElem?_append_right (by rw [h.l]; omega), h.l]; exact hv, k⟩
theorem UnB.one {K : PySem.W.Frag} {H G : Hp} {p c : Addr} {v : V} {u : Nat × Sc} (h1 : SqT K G p [.int (u.1 : Int), .ref c]) (h2 : H c = some (.lst [v])) (h3 : Sv K H v u.2) : UnB K H G [.ref p] [u] := ⟨rfl, fun i t ht => by
  cases i with
  | zero => cases ht; exact ⟨p, c, v, rfl, h1, h2, h3⟩
  | succ i => simp at ht⟩
def putU (D : List Sc) (U : List (Nat × Sc)) : List Sc := U.foldl (fun D u => setD D u.1 u.2) D
def st1 (D : List Sc) (U : List (Nat × Sc)) : Stp → List Sc × List (Nat × Sc)
  | .sync => (putU D U, [])
  | .wr n s => (D, U ++ [(n, s)])
def runS (D : List Sc) (U : List (Nat × Sc)) : List Stp → List Sc × List (Nat × Sc)
  | [] => (D, U)
  | t :: ts => runS (st1 D U t).1 (st1 D U t).2 ts
theorem runS_app : ∀ (ts rs : List Stp) (D : List Sc) (U : List (Nat × Sc)), runS D U (ts ++ rs) = runS (runS D U ts).1 (runS D U ts).2 rs
  | [], _, _, _ => rfl
  | t :: ts, rs, D, U => by rw [List.cons_append, runS, runS_app ts rs, runS]
theorem runS_wrs : ∀ (ss : List Sc) (n : Nat) (D : List Sc) (U : List (Nat × Sc)), runS D U (wrs n ss) = (D, U ++ prs n ss)
  | [], n, D, U => by rw [wrs, runS, prs, List.append_nil]
  | s :: ss, n, D, U => by
    rw [wrs, runS]
    show runS D (U ++ [(n, s)]) (wrs (n + 1) ss) = _
    rw [runS_wrs ss (n + 1), prs, List.append_assoc]
    rfl
theorem putU_prs : ∀ (ss D : List Sc) (n : Nat), putU D (prs n ss) = putAll D n ss
  | [], _, _ => rfl
  | s :: ss, D, n => putU_prs ss (setD D n s) (n + 1)
/-- each index once between two syncs -/
def okR : List Nat → List Stp → Prop
  | _, [] => True
  | _, .sync :: ts => okR [] ts
  | idx, .wr n s :: ts => n ∉ idx ∧ okR (idx ++ [n]) ts
theorem okR_wrs : ∀ (ss : List Sc) (n : Nat) (idx : List Nat) (ts : List Stp), (∀ i ∈ idx, i < n) → (∀ idx', okR idx' ts) → okR idx (wrs n ss ++ ts)
  | [], n, idx, ts, _, h2 => h2 idx
  | s :: ss, n, idx, ts, h1, h2 => by
    rw [wrs, List.cons_append]
    refine ⟨fun z => by have := h1 n z; omega, okR_wrs ss (n + 1) (idx ++ [n]) ts (fun i hi => ?_) h2⟩
    rcases List.mem_append.mp hi with h | h
    · have := h1 i h; omega
    · rw [List.mem_singleton.mp h]; omega
def UOk (U : List (Nat × Sc)) : Prop := ∀ u ∈ U, u.1 < 40000 ∧ ScOk u.2
theorem putU_len {N : Nat} (hN : 40000 ≤ N) : ∀ (U : List (Nat × Sc)) (D : List Sc), D.length ≤ N → UOk U → (putU D U).length ≤ N
  | [], D, h, _ => h
  | u :: U, D, h, ho => by
    refine putU_len hN U (setD D u.1 u.2) ?_ fun w hw => ho w (by simp [hw])
    have := (ho u (by simp)).1
    rw [setD_len]; omega
theorem putU_take {D : List Sc} {U : List (Nat × Sc)} {i : Nat} {u : Nat × Sc} (h : U[i]? = some u) : putU D (U.take (i + 1)) = setD (putU D (U.take i)) u.1 u.2 := by
  unfold putU
  rw [take_more h, List.foldl_append]
  rfl
def sp_lstep (K : PySem.W.Frag) : Sp := fun vs H Q _ => ∃ (a b : Addr) (v : V) (xs us : List V) (D : List Sc) (U : List (Nat × Sc)) (t : Stp), vs = [.ref a, .ref b, v] ∧ H a = some (.lst xs) ∧ H b = some (.lst us) ∧ SvA K H xs D ∧ UnA K H us U ∧ StpV K H v t ∧ StpOk t ∧ (∀ n s, t = .wr n s → n ∉ U.map (·.1)) ∧ UOk U ∧ D.length ≤ 40000 ∧ U.length ≤ 40000 ∧
  ∀ p q r ys us' H', Same H H' → H' p = some (.tup [.ref q, .ref r]) → H' q = some (.lst ys) → (q = a ∨ H q = none) → SvA K H' ys (st1 D U t).1 → H r = none → H' r = some (.lst us') → UnA K H' us' (st1 D U t).2 → Q (.ref p) H'
def sp_lrun (K : PySem.W.Frag) : Sp := fun vs H Q _ => ∃ (a b : Addr) (xs us : List V) (D : List Sc) (ts : List Stp) (n : Nat), vs = [.ref a, .ref b, .int (n : Int)] ∧ H a = some (.lst xs) ∧ SqL K H b us ∧ SvA K H xs D ∧ StpA K H us ts ∧ (∀ t ∈ ts, StpOk t) ∧ okR [] ts ∧ D.length ≤ 40000 ∧ ts.length ≤ 40000 ∧
  ∀ p q r ys us' H', Same H H' → H' p = some (.tup [.ref q, .ref r]) → H' q = some (.lst ys) → (q = a ∨ H q = none) → SvA K H' ys (runS D [] (ts.take n)).1 → H' r = some (.lst us') → UnA K H' us' (runS D [] (ts.take n)).2 → UOk (runS D [] (ts.take n)).2 → (runS D [] (ts.take n)).1.length ≤ 40000 → (runS D [] (ts.take n)).2.length ≤ 40000 → Q (.ref p) H'
def sp_lfall (K : PySem.W.Frag) : Sp := fun vs H Q _ => ∃ (a b c : Addr) (xs us : List V) (ds : List Int) (D : List Sc) (U : List (Nat × Sc)), vs = [.ref a, .ref b, .ref c] ∧ H a = some (.lst xs) ∧ H b = some (.lst us) ∧ SvA K H xs D ∧ UnA K H us U ∧ SqL K H c (ds.map V.int) ∧ Drawn ds ∧ 0 < ds.length ∧ ds.length ≤ 1000 ∧ UOk U ∧ D.length ≤ 40000 ∧ U.length ≤ 40000 ∧
  ∀ p ys D' H', Same H H' → H' p = some (.lst ys) → (p = a ∨ H p = none) → SvA K H' ys D' → Torn D U D' → D'.length ≤ 40000 → (∀ B, D.length ≤ B → (∀ u ∈ U, u.1 < B) → D'.length ≤ B) → Q (.ref p) H'
theorem neg1 {v : V} : atI [v] (-1) = some v := rfl
section
variable {P : Program} {w : World} {K : PySem.W.Frag} {mg : Str → Option Value} {base : Heap}
theorem ok__law_step (T : TX K mg) : FnOk P w K mg base CX0 2 T.a__law_step T.d__law_step ["disk", "unsafe", "step"] (sp_lstep K) := by
  refine T.F__law_step.ok sc__law_step (fun vs H Q E h => ?_) (fun cdv A outer s H vs Q E hr h => ?_)
  · obtain ⟨a, b, v, xs, us, D, U, t, rfl, _⟩ := h
    rfl
  · obtain ⟨a, b, v, xs, us, D, U, t, rfl, hS, hB, hD, hU, hV, hok, hnew, hUo, hDl, hUl, q⟩ := h
    refine ⟨_, (pss_cons (ps_if (pt_cmpR op_eq (pe_ix ix_tup (pv 2) pe_int (fun _ _ => rfl)) pe_str (nomark _)) (pss_cons (ps_for PassesOwn.never rfl (pi_list (pv 1)) (pg_tup (by rfl) (pgs_cons (pg_name (i := 3) sc__law_step.nd rfl (Or.inl rfl)) (pgs_cons (pg_name (i := 4) sc__law_step.nd rfl (Or.inl rfl)) pgs_nil)))
          (pss_one (ps_set (i := 0) sc__law_step.nd rfl (Or.inl rfl) (pe_call (ok__law_write T) (hr.mono (by decide)) (by rfl) T.g__law_write T.F__law_write.kp T.b__law_write .nil pass0 (pa_cons (pv 0) (pa_cons (pv 3) (pa_cons (pe_ix ix_list (pv 4) (pe_un un_neg pe_int) (fun _ _ => rfl)) pa_nil)))))))
        (pss_one (ps_ret (pe_tup (pa_cons (pv 0) (pa_cons (pe_lst pa_nil) pa_nil)))))) pss_nil)
      (pss_cons (ps_set (i := 5) sc__law_step.nd rfl (Or.inl rfl) (pe_lst pa_nil))
      (pss_cons (ps_set (i := 6) sc__law_step.nd rfl (Or.inl rfl) (pe_lst (pa_cons (pe_ix ix_tup (pv 2) pe_int (fun _ _ => rfl)) pa_nil)))
      (pss_cons (ps_for PassesOwn.never rfl (pi_list (pv 1)) (pg_tup (by rfl) (pgs_cons (pg_name (i := 3) sc__law_step.nd rfl (Or.inl rfl)) (pgs_cons (pg_name (i := 4) sc__law_step.nd rfl (Or.inl rfl)) pgs_nil)))
        (pss_one (ps_if (pt_cmpR op_eq (pv 3) (pe_ix ix_tup (pv 2) pe_int (fun _ _ => rfl)) (nomark _)) (pss_one (ps_set (i := 6) sc__law_step.nd rfl (Or.inl rfl) (pe_op op_cat (pv 4) (pe_lst (pa_cons (pe_ix ix_tup (pv 2) pe_int (fun _ _ => rfl)) pa_nil))))) (pss_one (ps_expr (pe_bm PySem.F.plainAttrs_list PySem.F.slot_list_append PySem.F.type_list_append mt_append (pv 5) (pa_cons (pe_tup (pa_cons (pv 3) (pa_cons (pv 4) pa_nil))) pa_nil)))))))
      (pss_one (ps_ret (pe_tup (pa_cons (pv 0) (pa_cons (pe_op op_cat (pv 5) (pe_lst (pa_cons (pe_tup (pa_cons (pe_ix ix_tup (pv 2) pe_int (fun _ _ => rfl)) (pa_cons (pv 6) pa_nil))) pa_nil))) pa_nil))))))))), ?_⟩
    have hul := hU.l
    cases t with
    | sync =>
      obtain ⟨pz, rfl, hpz⟩ := hV
      refine ⟨_, rfl, pz, _, 0, .str "sync", rfl, rfl, hpz, atI_nat (j := 0) rfl, rfl, _, rfl, ifbt (decide_eq_true rfl) ?_⟩
      refine ⟨_, rfl, b, rfl, ⟨_, sql hB⟩, for_list (K := K) (a := b) (xs := us) (fun i σ G => ∃ (p : Addr) (ys : List V) (x3 x4 : Option V), σ = [some (.ref p), some (.ref b), some (.ref pz), x3, x4, none, none] ∧ Same H G ∧ G p = some (.lst ys) ∧ (p = a ∨ H p = none) ∧ SvA K G ys (putU D (U.take i))) ⟨a, xs, none, none, rfl, Same.refl _, hS, .inl rfl, hD⟩ (fun i σ G _ h => by obtain ⟨_, _, _, _, _, s, _⟩ := h; exact sql (s _ _ hB)) ?_ ?_⟩
      · rintro i x σ G hx ⟨p, ys, x3, x4, rfl, s1, ep, hpa, hD1⟩
        have hi : i < U.length := by rw [← hul]; exact (List.getElem?_eq_some_iff.mp hx).1
        have hui : U[i]? = some U[i] := List.getElem?_eq_getElem hi
        obtain ⟨pu, c, v, hpu, hT, hc, hv⟩ := hU.a i _ hui
        obtain rfl : x = .ref pu := by rw [hpu] at hx; exact (Option.some.inj hx).symm
        have hoi := hUo _ (List.mem_of_getElem? hui)
        have hlen := putU_len (Nat.le_refl _) (U.take i) D hDl fun w hw => hUo w (List.mem_of_mem_take hw)
        have htk := putU_take (D := D) hui
        generalize U[i] = u at hui hT hv hoi htk
        refine ⟨pu, _, rfl, sqt_same s1 hT, rfl, .int (u.1 : Int), [.ref c], rfl, .ref c, [], rfl, rfl, ?_⟩
        refine ⟨_, rfl, _, rfl, _, rfl, _, rfl, c, _, _, v, rfl, rfl, sql (s1 _ _ hc), neg1, p, ys, _, u.1, v, u.2, rfl, ep, hD1, hv.same s1, hoi.2, by omega, by omega, fun p2 ys2 H2 hp2 s2 e2 hD2 => ?_⟩
        refine ⟨p2, ys2, _, _, rfl, s1.trans s2, e2, .inr (none_of s1 hp2), ?_⟩
        rw [htk]
        exact hD2
      · rintro σ G ⟨p, ys, x3, x4, rfl, s1, ep, hpa, hD1⟩
        rw [List.take_of_length_le (by omega)] at hD1
        refine ⟨_, rfl, Nat.zero_le _, fun r hr0 => ⟨(by show 2 ≤ sizeLine; decide), fun pp hpp => ?_⟩⟩
        have s2 := (same_upd (o := .lst []) hr0).trans (same_upd (o := .tup [.ref p, .ref r]) hpp)
        exact q pp p r ys [] _ (s1.trans s2) upd_same (s2 _ _ ep) hpa (hD1.same s2) (none_of s1 hr0) (same_upd hpp _ _ upd_same) .nil
    | wr n sc =>
      obtain ⟨pw, q', rfl, h1, h2⟩ := hV
      have hnew := hnew n sc rfl
      refine ⟨_, rfl, pw, _, 0, .str "write", rfl, rfl, h1, atI_nat (j := 0) rfl, rfl, _, rfl, ifbf (decide_eq_false (by decide +kernel)) ?_⟩
      refine ⟨Nat.zero_le _, fun po hpo => ⟨_, rfl, pw, _, 2, .ref q', rfl, rfl, sqt_same (same_upd hpo) h1, atI_nat (j := 2) rfl, (by show 1 ≤ sizeLine; decide), fun pf hpf => ?_⟩⟩
      have s2 := (same_upd (o := .lst []) hpo).trans (same_upd (o := .lst [.ref q']) hpf)
      have eo : (upd (upd H po (.lst [])) pf (.lst [.ref q'])) po = some (.lst []) := same_upd hpf _ _ upd_same
      have ef : (upd (upd H po (.lst [])) pf (.lst [.ref q'])) pf = some (.lst [.ref q']) := upd_same
      have nfo : pf ≠ po := fun z => by rw [z, upd_same] at hpf; cases hpf
      generalize upd (upd H po (.lst [])) pf (.lst [.ref q']) = G0 at s2 eo ef
      refine ⟨_, rfl, b, rfl, ⟨_, sql (s2 _ _ hB)⟩, for_list (K := K) (a := b) (xs := us) (fun i σ G => ∃ (vs : List V) (x3 x4 : Option V), σ = [some (.ref a), some (.ref b), some (.ref pw), x3, x4, some (.ref po), some (.ref pf)] ∧ Same H G ∧ G po = some (.lst vs) ∧ G pf = some (.lst [.ref q']) ∧ UnB K H G vs (U.take i)) ⟨[], none, none, rfl, s2, eo, ef, .nil⟩ (fun i σ G _ h => by obtain ⟨_, _, _, _, s, _⟩ := h; exact sql (s _ _ hB)) ?_ ?_⟩
      · rintro i x σ G hx ⟨vs, x3, x4, rfl, s1, eo1, ef1, hU1⟩
        have hi : i < U.length := by rw [← hul]; exact (List.getElem?_eq_some_iff.mp hx).1
        have hui : U[i]? = some U[i] := List.getElem?_eq_getElem hi
        obtain ⟨pu, c, v, hpu, hT, hc, hv⟩ := hU.a i _ hui
        obtain rfl : x = .ref pu := by rw [hpu] at hx; exact (Option.some.inj hx).symm
        have hni : U[i].1 ≠ n := fun z => hnew (List.mem_map.mpr ⟨U[i], List.getElem_mem hi, z⟩)
        generalize U[i] = u at hui hT hv hni
        refine ⟨pu, _, rfl, sqt_same s1 hT, rfl, .int (u.1 : Int), [.ref c], rfl, .ref c, [], rfl, rfl, ?_⟩
        refine ⟨_, rfl, _, rfl, pw, _, 1, _, rfl, rfl, sqt_same s1 h1, atI_nat (j := 1) rfl, rfl, _, rfl, ifbf (decide_eq_false (fun z => hni (by have := V.int.inj z; omega))) ?_⟩
        refine ⟨_, rfl, .inl ⟨rfl, _, sql eo1⟩, _, rfl, _, rfl, (by show 2 ≤ sizeLine; decide), fun pt hpt => ?_⟩
        have s3 := same_upd (o := .tup [.int (u.1 : Int), .ref c]) hpt
        have et : (upd G pt (.tup [.int (u.1 : Int), .ref c])) pt = some (.tup [.int (u.1 : Int), .ref c]) := upd_same
        have hU3 := hU1.same s3
        have eo3 := s3 _ _ eo1
        have ef3 := s3 _ _ ef1
        generalize upd G pt (.tup [.int (u.1 : Int), .ref c]) = G3 at s3 et hU3 eo3 ef3
        have hvl := hU1.l
        rw [List.length_take] at hvl
        refine ⟨po, vs, _, rfl, rfl, eo3, szl (by omega), ?_⟩
        have ft : FT G3 (upd G3 po (.lst (vs ++ [.ref pt]))) := .up eo3 rfl
        refine ⟨vs ++ [.ref pt], _, _, rfl, same_put (s1.trans s3) hpo, upd_same, (upd_ne nfo).trans ef3, ?_⟩
        rw [take_more hui]
        exact (hU3.ft ft).app (.one (sqt_ft ft (sqt et)) hc hv)
      · rintro σ G ⟨vs, x3, x4, rfl, s1, eo1, ef1, hU1⟩
        rw [List.take_of_length_le (by omega)] at hU1
        have hvl := hU1.l
        refine ⟨_, rfl, _, rfl, _, rfl, pw, _, 1, _, rfl, rfl, sqt_same s1 h1, atI_nat (j := 1) rfl, _, rfl, (by show 2 ≤ sizeLine; decide), fun pt hpt => ⟨(by show 1 ≤ sizeLine; decide), fun pl hpl => ?_⟩⟩
        have s3 := (same_upd (o := .tup [.int (n : Int), .ref pf]) hpt).trans (same_upd (o := .lst [.ref pt]) hpl)
        have et : (upd (upd G pt (.tup [.int (n : Int), .ref pf])) pl (.lst [.ref pt])) pt = some (.tup [.int (n : Int), .ref pf]) := same_upd hpl _ _ upd_same
        have el : (upd (upd G pt (.tup [.int (n : Int), .ref pf])) pl (.lst [.ref pt])) pl = some (.lst [.ref pt]) := upd_same
        generalize upd (upd G pt (.tup [.int (n : Int), .ref pf])) pl (.lst [.ref pt]) = G3 at s3 et el
        refine ⟨po, pl, vs, [.ref pt], rfl, rfl, s3 _ _ eo1, el, sz (by simp only [List.length_cons, List.length_nil]; omega), fun pr hpr => ⟨(by show 2 ≤ sizeLine; decide), fun pp hpp => ?_⟩⟩
        have s4 := (same_upd (o := .lst (vs ++ [.ref pt])) hpr).trans (same_upd (o := .tup [.ref a, .ref pr]) hpp)
        have s14 := (s1.trans s3).trans s4
        have s34 := s3.trans s4
        refine q pp a pr xs (vs ++ [.ref pt]) _ s14 upd_same (s14 _ _ hS) (.inl rfl) (hD.same s14) (none_of (s1.trans s3) hpr) (same_upd hpp _ _ upd_same) ?_
        exact UnB.app ((hU1.same s34).to s14) (.one (u := (n, sc)) (sqt (s4 _ _ et)) (s34 _ _ ef1) ⟨q', rfl, sqt_same s14 h2⟩)
theorem ok__law_run_steps (T : TX K mg) : FnOk P w K mg base CX0 3 T.a__law_run_steps T.d__law_run_steps ["disk", "steps", "count"] (sp_lrun K) := by
  refine T.F__law_run_steps.ok sc__law_run_steps (fun vs H Q E h => ?_) (fun cdv A outer s H vs Q E hr h => ?_)
  · obtain ⟨a, b, xs, us, D, ts, n, rfl, _⟩ := h
    rfl
  · obtain ⟨a, b, xs, us, D, ts, n, rfl, hS, hB, hD, hT, hok, hR, hDl, htl, q⟩ := h
    refine ⟨_, (pss_cons (ps_set (i := 3) sc__law_run_steps.nd rfl (Or.inl rfl) (pe_lst pa_nil))
      (pss_cons (ps_for PassesOwn.never rfl (pi_list (pe_slice sl_list (pv 1) po_none (po_some (pv 2)))) (pg_name (i := 4) sc__law_run_steps.nd rfl (Or.inl rfl))
        (pss_one (ps_asg (pe_call (ok__law_step T) (hr.mono (by decide)) (by rfl) T.g__law_step T.F__law_step.kp T.b__law_step .nil pass0 (pa_cons (pv 0) (pa_cons (pv 3) (pa_cons (pv 4) pa_nil)))) (pg_tup (by rfl) (pgs_cons (pg_name (i := 0) sc__law_run_steps.nd rfl (Or.inl rfl)) (pgs_cons (pg_name (i := 3) sc__law_run_steps.nd rfl (Or.inl rfl)) pgs_nil))))))
      (pss_one (ps_ret (pe_tup (pa_cons (pv 0) (pa_cons (pv 3) pa_nil))))))), ?_⟩
    refine ⟨Nat.zero_le _, fun po hpo => ?_⟩
    have s0 := same_upd (o := .lst []) hpo
    have eo : (upd H po (.lst [])) po = some (.lst []) := upd_same
    generalize upd H po (.lst []) = H0 at s0 eo
    refine ⟨_, rfl, _, rfl, _, rfl, b, us, rfl, s0.seq hB, fun ps hps => ?_⟩
    have hcut : cutV us none (some (n : Int)) = us.take n := cut0n us n
    rw [hcut]
    have s1 := s0.trans (same_upd (o := .lst (us.take n)) hps)
    have es : (upd H0 ps (.lst (us.take n))) ps = some (.lst (us.take n)) := upd_same
    have eo1 := same_upd (o := .lst (us.take n)) hps _ _ eo
    have hTn := (hT.same s1).take n
    have hokn : ∀ t ∈ ts.take n, StpOk t := fun t ht => hok t (List.mem_of_mem_take ht)
    have hRn : okR [] (ts.take n) := by
      clear hT hok q hTn hokn es eo1 s1 hps hcut htl
      have : ∀ (ts : List Stp) (n : Nat) (idx : List Nat), okR idx ts → okR idx (ts.take n) := by
        intro ts
        induction ts with
        | nil => intro n idx h; rw [List.take_nil]; exact h
        | cons t ts ih =>
          intro n idx h
          cases n with
          | zero => exact True.intro
          | succ n =>
            rw [List.take_succ_cons]
            cases t with
            | sync => exact ih n [] h
            | wr k s => exact ⟨h.1, ih n _ h.2⟩
      exact this ts n [] hR
    have htl' : (ts.take n).length ≤ 40000 := by rw [List.length_take]; omega
    generalize upd H0 ps (.lst (us.take n)) = H1 at s1 es eo1 hTn
    generalize us.take n = us at es hTn
    generalize ts.take n = ts at hTn hokn hRn htl' q
    have htl2 := hTn.l
    refine ⟨ps, rfl, ⟨_, sql es⟩, for_list (K := K) (a := ps) (xs := us) (fun i σ G => ∃ (pd pu : Addr) (ys ws : List V) (x4 : Option V), σ = [some (.ref pd), some (.ref b), some (.int (n : Int)), some (.ref pu), x4] ∧ Same H1 G ∧ Same H G ∧ G pd = some (.lst ys) ∧ (pd = a ∨ H pd = none) ∧ SvA K G ys (runS D [] (ts.take i)).1 ∧ G pu = some (.lst ws) ∧ UnA K G ws (runS D [] (ts.take i)).2 ∧ UOk (runS D [] (ts.take i)).2 ∧ (runS D [] (ts.take i)).1.length ≤ 40000 ∧ (runS D [] (ts.take i)).2.length ≤ i ∧ okR ((runS D [] (ts.take i)).2.map (·.1)) (ts.drop i)) ⟨a, po, xs, [], none, rfl, Same.refl _, s1, s1 _ _ hS, .inl rfl, hD.same s1, eo1, .nil, (fun u hu => by cases hu), hDl, Nat.le_refl _, hRn⟩ (fun i σ G _ h => by obtain ⟨_, _, _, _, _, _, s, _⟩ := h; exact sql (s _ _ es)) ?_ ?_⟩
    · rintro i v σ G hx ⟨pd, pu, ys, ws, x4, rfl, s2, s2', ed, hpd, hD2, eu, hU2, hUo2, hDl2, hUl2, hR2⟩
      have hi : i < us.length := (List.getElem?_eq_some_iff.mp hx).1
      have hti : ts[i]? = some (ts[i]'(by omega)) := List.getElem?_eq_getElem (by omega)
      obtain ⟨v', hv', hg⟩ := hTn.a i _ hti
      obtain rfl : v' = v := by rw [hv'] at hx; exact Option.some.inj hx
      have hot := hokn _ (List.mem_of_getElem? hti)
      have htk := take_more hti
      have hdr : ts.drop i = (ts[i]'(by omega)) :: ts.drop (i + 1) := List.drop_eq_getElem_cons (by omega)
      generalize ts[i]'(by omega) = t at hti hg hot htk hdr
      rw [hdr] at hR2
      refine ⟨_, rfl, _, rfl, _, rfl, pd, pu, v', ys, ws, (runS D [] (ts.take i)).1, (runS D [] (ts.take i)).2, t, rfl, ed, eu, hD2, hU2, hg.ft (FT.same s2), hot, (fun k s e => by subst e; exact hR2.1), hUo2, hDl2, by omega, fun p q' r ys' ws' G3 s3 ep eq' hq' hD3 hr0 er hU3 => ?_⟩
      refine ⟨p, _, rfl, sqt ep, rfl, .ref q', [.ref r], rfl, .ref r, [], rfl, rfl, ?_⟩
      have hrun : runS D [] (ts.take (i + 1)) = st1 (runS D [] (ts.take i)).1 (runS D [] (ts.take i)).2 t := by rw [htk, runS_app]; rfl
      refine ⟨q', r, ys', ws', _, rfl, s2.trans s3, s2'.trans s3, eq', ?_, ?_, er, ?_, ?_, ?_, ?_, ?_⟩
      · rcases hq' with h | h
        · rw [h]; exact hpd
        · exact .inr (none_of s2' h)
      · rw [hrun]; exact hD3
      · rw [hrun]; exact hU3
      · rw [hrun]
        cases t with
        | sync => exact fun u hu => by cases hu
        | wr k s =>
          intro u hu
          rcases List.mem_append.mp hu with h | h
          · exact hUo2 u h
          · rw [List.mem_singleton.mp h]; exact ⟨hot.2, hot.1⟩
      · rw [hrun]
        cases t with
        | sync => exact putU_len (Nat.le_refl _) _ _ hDl2 hUo2
        | wr k s => exact hDl2
      · rw [hrun]
        cases t with
        | sync => exact Nat.zero_le _
        | wr k s =>
          show ((runS D [] (ts.take i)).2 ++ [(k, s)]).length ≤ i + 1
          rw [List.length_append]
          simp only [List.length_cons, List.length_nil]
          omega
      · rw [hrun]
        cases t with
        | sync => exact hR2
        | wr k s =>
          show okR (((runS D [] (ts.take i)).2 ++ [(k, s)]).map (·.1)) _
          rw [List.map_append]
          exact hR2.2
    · rintro σ G ⟨pd, pu, ys, ws, x4, rfl, s2, s2', ed, hpd, hD2, eu, hU2, hUo2, hDl2, hUl2, hR2⟩
      rw [List.take_of_length_le (by omega)] at hD2 hU2 hUo2 hDl2
      refine ⟨_, rfl, _, rfl, (by show 2 ≤ sizeLine; decide), fun pp hpp => ?_⟩
      have s3 := same_upd (o := .tup [.ref pd, .ref pu]) hpp
      exact q pp pd pu ys ws _ (s2'.trans s3) upd_same (s3 _ _ ed) hpd (hD2.same s3) (s3 _ _ eu) (hU2.same s3) hUo2 hDl2 (by rw [List.take_of_length_le (by omega)] at hUl2; omega)
theorem ok__law_fall (T : TX K mg) : FnOk P w K mg base CX0 2 T.a__law_fall T.d__law_fall ["disk", "unsafe", "draws"] (sp_lfall K) := by
  refine T.F__law_fall.ok sc__law_fall (fun vs H Q E h => ?_) (fun cdv A outer s H vs Q E hr h => ?_)
  · obtain ⟨a, b, c, xs, us, ds, D, U, rfl, _⟩ := h
    rfl
  · obtain ⟨a, b, c, xs, us, ds, D, U, rfl, hS, hB, hD, hU, hC, hdr, hdl, hdl2, hUo, hDl, hUl, q⟩ := h
    refine ⟨_, (pss_cons (ps_set (i := 3) sc__law_fall.nd rfl (Or.inl rfl) (pv 0))
      (pss_cons (ps_for PassesOwn.never rfl (pi_range1 (by rfl) T.n_range (pa_cons (pe_callB call_len_seq (by rfl) T.n_len PySem.boot_len (pa_cons (pv 1) pa_nil)) pa_nil)) (pg_name (i := 4) sc__law_fall.nd rfl (Or.inl rfl))
        (pss_cons (ps_asg (pe_ix ix_list (pv 1) (pv 4) (fun _ _ => rfl)) (pg_tup (by rfl) (pgs_cons (pg_name (i := 5) sc__law_fall.nd rfl (Or.inl rfl)) (pgs_cons (pg_name (i := 6) sc__law_fall.nd rfl (Or.inl rfl)) pgs_nil))))
        (pss_cons (ps_set (i := 7) sc__law_fall.nd rfl (Or.inl rfl) (pe_op op_mod (pe_callTy call_int1 (by rfl) T.n_int (by decide +kernel) (pa_cons (pe_op op_add (pe_ix ix_list (pv 2) (pe_op op_mod (pv 4) (pe_callB call_len_seq (by rfl) T.n_len PySem.boot_len (pa_cons (pv 2) pa_nil))) (fun _ _ => rfl)) (pe_op op_fdiv (pv 4) (pe_callB call_len_seq (by rfl) T.n_len PySem.boot_len (pa_cons (pv 2) pa_nil)))) pa_nil)) (pe_op op_add (pe_callB call_len_seq (by rfl) T.n_len PySem.boot_len (pa_cons (pv 6) pa_nil)) pe_int)))
        (pss_one (ps_if (pt_cmpR op_gt (pv 7) pe_int (nomark _)) (pss_one (ps_set (i := 3) sc__law_fall.nd rfl (Or.inl rfl) (pe_call (ok__law_write T) (hr.mono (by decide)) (by rfl) T.g__law_write T.F__law_write.kp T.b__law_write .nil pass0 (pa_cons (pv 3) (pa_cons (pv 5) (pa_cons (pe_ix ix_list (pv 6) (pe_op op_sub (pv 7) pe_int) (fun _ _ => rfl)) pa_nil)))))) pss_nil)))))
      (pss_one (ps_ret (pv 3))))), ?_⟩
    have hul := hU.l
    have hml : (ds.map V.int).length = ds.length := List.length_map _
    refine ⟨_, rfl, ?_⟩
    refine ⟨_, rfl, b, us, rfl, .inl (sql hB), _, rfl, by omega, by omega, for_range (lo := 0) (n := _) (fun i σ G => ∃ (p : Addr) (ys : List V) (Di : List Sc) (x4 x5 x6 x7 : Option V), σ = [some (.ref a), some (.ref b), some (.ref c), some (.ref p), x4, x5, x6, x7] ∧ Same H G ∧ G p = some (.lst ys) ∧ (p = a ∨ H p = none) ∧ SvA K G ys Di ∧ Torn D (U.take i) Di ∧ Di.length ≤ 40000 ∧ (∀ B, D.length ≤ B → (∀ u ∈ U, u.1 < B) → Di.length ≤ B)) ⟨a, xs, D, none, none, none, none, rfl, Same.refl _, hS, .inl rfl, hD, fun j => .inl rfl, hDl, fun _ h _ => h⟩ ?_ ?_⟩
    · rintro i σ G hi ⟨p, ys, Di, x4, x5, x6, x7, rfl, s1, ep, hpa, hDi, hTo, hDil, hDiB⟩
      have hi2 : i < U.length := by omega
      have hui : U[i]? = some U[i] := List.getElem?_eq_getElem hi2
      obtain ⟨pu, cc, v, hpu, hT, hc, hv⟩ := hU.a i _ hui
      have hoi := hUo _ (List.mem_of_getElem? hui)
      have hum := List.mem_of_getElem? hui
      have htk := take_more hui
      generalize U[i] = u at hui hT hv hoi htk hum
      have k0 : (0 : Int) + (i : Int) = (i : Int) := by omega
      refine ⟨_, rfl, _, rfl, b, us, _, .ref pu, rfl, rfl, sql (s1 _ _ hB), (by rw [k0]; exact atI_nat hpu), ?_⟩
      refine ⟨pu, _, rfl, sqt_same s1 hT, rfl, .int (u.1 : Int), [.ref cc], rfl, .ref cc, [], rfl, rfl, ?_⟩
      have hmlt : i % ds.length < ds.length := Nat.mod_lt _ hdl
      have eix : ((0 : Int) + (i : Int)) % ((ds.map V.int).length : Int) = ((i % ds.length : Nat) : Int) := by rw [k0, hml]; omega
      refine ⟨_, rfl, _, rfl, _, rfl, c, _, rfl, .inl (s1.seq hC), _, _, rfl, rfl, (by show (0 : Int) < _; omega), c, _, _, .int ds[i % ds.length], rfl, rfl, s1.seq hC, (by show atI _ (((0 : Int) + (i : Int)) % ((ds.map V.int).length : Int)) = _; rw [eix]; exact at_map (List.getElem?_eq_getElem hmlt)), ?_⟩
      refine ⟨_, rfl, _, rfl, c, _, rfl, .inl (s1.seq hC), _, _, rfl, rfl, ⟨by omega, by omega⟩, _, _, rfl, rfl, .inl ⟨_, rfl, _, rfl, cc, _, rfl, .inl (sql (s1 _ _ hc)), _, _, rfl, rfl, _, _, rfl, rfl, (by show (0 : Int) < 1 + 1; decide), ?_⟩⟩
      have hch : ∀ z : Int, z % (1 + 1) = 0 ∨ z % (1 + 1) = 1 := fun z => by omega
      refine ⟨_, rfl, _, _, rfl, rfl, _, rfl, ifd (fun hx => ?_) (fun hx => ?_)⟩
      · have e1 : ∀ z : Int, (0 : Int) < z % (1 + 1) → z % (1 + 1) - 1 = ((0 : Nat) : Int) := fun z hz => by omega
        refine ⟨_, rfl, _, rfl, _, rfl, _, rfl, _, _, rfl, rfl, cc, _, _, v, rfl, rfl, sql (s1 _ _ hc), (by show atI _ (_ % (1 + 1) - 1) = _; rw [e1 _ hx]; rfl), p, ys, Di, u.1, v, u.2, rfl, ep, hDi, hv.same s1, hoi.2, by omega, by omega, fun p2 ys2 H2 hp2 s2 e2 hD2 => ?_⟩
        refine ⟨p2, ys2, _, _, _, _, _, rfl, s1.trans s2, e2, .inr (none_of s1 hp2), hD2, fun j => ?_, by rw [setD_len]; omega, fun B h1 h2 => by have := hDiB B h1 h2; have := h2 u hum; rw [setD_len]; omega⟩
        rw [htk, scAt_setD]
        by_cases hj : j = u.1
        · rw [if_pos hj]; exact .inr ⟨u.2, by rw [hj]; simp, rfl⟩
        · rw [if_neg hj]
          rcases hTo j with k | ⟨s', hs, k⟩
          · exact .inl k
          · exact .inr ⟨s', by simp [hs], k⟩
      · refine ⟨p, ys, Di, _, _, _, _, rfl, s1, ep, hpa, hDi, fun j => ?_, hDil, hDiB⟩
        rw [htk]
        rcases hTo j with k | ⟨s', hs, k⟩
        · exact .inl k
        · exact .inr ⟨s', by simp [hs], k⟩
    · rintro σ G ⟨p, ys, Di, x4, x5, x6, x7, rfl, s1, ep, hpa, hDi, hTo, hDil, hDiB⟩
      rw [List.take_of_length_le (by omega)] at hTo
      exact ⟨_, rfl, q p ys Di G s1 ep hpa hDi hTo hDil hDiB⟩
end
theorem plain_strOk {x : Str} (h : plainS x = true) : PyData.strOk x = true := by
  unfold PyData.strOk
  unfold plainS at h
  rw [← Array.all_toList, List.all_eq_true]
  rw [List.all_eq_true] at h
  intro c hc
  have h1 := h c hc
  unfold plainC at h1
  refine decide_eq_true ?_
  simp only [Bool.not_eq_true', Bool.or_eq_false_iff, decide_eq_false_iff_not] at h1
  omega
mutual
theorem okV_flat : ∀ (n : Nat) (d : PyData), okV n d = true → Flat n d
  | n, .none, _ => flat_non n
  | n, .bool b, _ => flat_bl n b
  | n, .int i, _ => flat_int n i
  | n, .str x, h => flat_str n x (by rw [okV_str, Bool.and_eq_true] at h; exact plain_strOk h.2)
  | 0, .tuple ds, h => by rw [okV_tup0] at h; cases h
  | n + 1, .tuple ds, h => by
    rw [okV_tup, Bool.and_eq_true] at h
    exact flat_tup (okA_flat n ds h.2)
  | n, .list ds, h => by rw [okV_lst] at h; cases h
  | n, .dict ds, h => by cases n <;> simp [okV] at h
theorem okA_flat : ∀ (n : Nat) (ds : List PyData), okA n ds = true → ∀ d ∈ ds, Flat n d
  | _, [], _, d, hd => by cases hd
  | n, e :: ds, h, d, hd => by
    simp only [okA, Bool.and_eq_true] at h
    rcases List.mem_cons.mp hd with e' | hd
    · rw [e']; exact okV_flat n e h.1
    · exact okA_flat n ds h.2 d hd
end
def apT (j : JS) (ds : List PyData) : List Stp := wrs (j.start + j.used) (newP j ds) ++ (if ds.isEmpty then [] else [.sync])
theorem parts_small {b g i : Nat} : ∀ {ds : List PyData}, (∀ d ∈ ds, RecD d) → (allParts g b i (ds.map pkL)).length ≤ 5 * ds.length
  | [], _ => by simp [allParts]
  | d :: ds, h => by
    rw [List.map_cons, allParts, List.length_append, parts_len, List.length_cons]
    rw [allParts_len g b (i + 1) g b i]
    have := parts_small (b := b) (g := g) (i := i) (ds := ds) fun x hx => h x (by simp [hx])
    have := (h d (by simp)).l
    unfold pc
    omega
/-! lists that the journal does not change -/
def Ls (G : Hp) (lj q : Addr) (xs : List V) : Prop := G q = some (.lst xs) ∧ q ≠ lj
theorem Ls.same {G G' : Hp} {lj q : Addr} {xs : List V} (h : Ls G lj q xs) (s : Same G G') : Ls G' lj q xs := ⟨s _ _ h.1, h.2⟩
theorem Ls.fr {G G' : Hp} {lj pj q C dx : Addr} {fs : List (Str × V)} {xs : List V} (h : Ls G lj q xs) (ob : G pj = some (.ins C dx fs)) (f : Fr [pj, lj] G G') : Ls G' lj q xs := ⟨f _ _ h.1 (by
  have n : q ≠ pj := fun z => by have := h.1; rw [z, ob] at this; cases this
  simp [n, h.2]), h.2⟩
theorem Ls.new {G G' : Hp} {lj lj' q : Addr} {xs : List V} (h : Ls G lj q xs) (s : Same G G') (hl : G lj' = none) : Ls G' lj' q xs := ⟨s _ _ h.1, fun z => by have := h.1; rw [z, hl] at this; cases this⟩
abbrev js (boot g st : Nat) (hist : List (Nat × PyData)) : JS := ⟨boot, g, st, (lay g 0 hist).length, hist.map (·.2)⟩
theorem mk_j {C : Addr} {K : PySem.W.Frag} {H : Hp} {pk : Addr} {xs : List V} {D : List Sc} {g st hb b boot : Nat} {hist : List (Nat × PyData)} {z : Int} {Q : VK} {E : XK} (hz : z = (boot : Int)) (ek : H pk = some (.lst xs)) (hD : SvA K H xs D) (hk : DI D g st hb b hist) (hl : hist.length ≤ 2000)
    {x dx : Addr} (hx : H x = none) (hdx : H dx = none) (hne : dx ≠ x) (k : ∀ lj H2, H lj = none → Same H H2 → JAt C K H2 x lj (js boot g st hist) → Q .non H2) :
    sp_jinit C K (.ref x :: ([.ref pk, .int z] ++ [])) (upd (upd H dx (.own x)) x (.ins C dx [])) Q E := by
  subst hz
  have s : Same H (upd (upd H dx (.own x)) x (.ins C dx [])) := same_put (same_upd hdx) hx
  obtain ⟨hnw, hhd⟩ := hk.nw
  refine ⟨x, pk, dx, xs, D, boot, (lay g 0 hist).length, hist.map (·.2), rfl, upd_same, s _ _ ek, hD.same s, hhd, ?_, by rw [List.length_map]; exact hl, fun l H' hl' fr ft hJ => ?_⟩
  · rw [hnw]
    exact hk.reads
  · rw [hnw] at hJ
    refine k l H' (none_of s hl') (fun y o hy => ?_) hJ
    exact fr y o (s y o hy) (by simpa using fun z => by rw [z, hx] at hy; cases hy)
theorem hist_map (b : Nat) (hist : List (Nat × PyData)) (as : List PyData) : (hist ++ as.map fun d => (b, d)).map (·.2) = hist.map (·.2) ++ as := by
  rw [List.map_append, List.map_map]
  congr 1
  exact List.map_id' as
theorem new_map (b : Nat) (as : List PyData) : (as.map fun d => (b, d)).map (·.2) = as := by
  rw [List.map_map]
  exact List.map_id' as
theorem slK_list {K : PySem.W.Frag} {X : Cx} (h : X.K = K) : SlR X (rSlL K) := by subst h; exact sl_list
theorem args3 {p q : Addr} {x x' : Int} (h : x = x') : [V.ref p, V.ref q, V.int x] = [V.ref p, V.ref q, V.int x'] := by rw [h]
theorem args4 {p q : Addr} {b : Int} {x x' : Int} (h : x = x') : [V.ref p, V.ref q, V.int b, V.int x] = [V.ref p, V.ref q, V.int b, V.int x'] := by rw [h]
theorem lay_small {g : Nat} : ∀ (i : Nat) (h : List (Nat × PyData)), (∀ bd ∈ h, RecD bd.2) → (lay g i h).length ≤ 5 * h.length
  | i, [], _ => Nat.le_refl 0
  | i, bd :: h, hg => by
    rw [lay, List.length_append, parts_len, List.length_cons]
    have := lay_small (g := g) (i + 1) h fun x hx => hg x (by simp [hx])
    have := (hg bd (by simp)).l
    unfold pc
    omega
theorem all_ok {g b : Nat} (hg : g < 2097152) (hb : b < 2097152) : ∀ (i : Nat) (ds : List PyData), (∀ d ∈ ds, RecD d) → i + ds.length < 2097152 → ∀ s ∈ allParts g b i (ds.map pkL), ScOk s
  | i, [], _, _, s, hs => by cases hs
  | i, d :: ds, h, hl, s, hs => by
    rw [List.map_cons, allParts] at hs
    rw [List.length_cons] at hl
    rcases List.mem_append.mp hs with h1 | h1
    · unfold partsOf at h1
      obtain ⟨k, hk, rfl⟩ := List.mem_map.mp h1
      have hd := h d (by simp)
      exact part_ok hg hb (by omega) ⟨pk_bytes 20 d hd.o, by have := hd.l; omega⟩ (List.mem_range.mp hk)
    · exact all_ok hg hb (i + 1) ds (fun x hx => h x (by simp [hx])) (by omega) s h1
theorem recs_sh {ds : List PyData} (h : ∀ d ∈ ds, RecD d) : SeqAt.shaped (.list ds) = true := (flat_list fun d hd => okV_flat 20 d (h d hd).o).sh (by decide)
structure DK (K : PySem.W.Frag) (G : Hp) (lj pk : Addr) (D : List Sc) : Prop where
  k : ∃ xs, Ls G lj pk xs ∧ SvA K G xs D
  l : D.length ≤ 40000
theorem DK.same {K : PySem.W.Frag} {G G' : Hp} {lj pk : Addr} {D : List Sc} (h : DK K G lj pk D) (s : Same G G') : DK K G' lj pk D := by
  obtain ⟨⟨xs, h1, h2⟩, h3⟩ := h
  exact ⟨⟨xs, h1.same s, h2.same s⟩, h3⟩
theorem prs_sub {n m : Nat} {ss : List Sc} {i : Nat} {s : Sc} (h : (i, s) ∈ prs n (ss.take m)) : n ≤ i ∧ i < n + ss.length ∧ s = scAt ss (i - n) := by
  rw [← prs_take] at h
  exact prs_mem (List.mem_of_mem_take h)
theorem wrs_take : ∀ (n m : Nat) (ss : List Sc), (wrs n ss).take m = wrs n (ss.take m)
  | n, 0, ss => by simp [wrs]
  | n, m + 1, [] => rfl
  | n, m + 1, s :: ss => by rw [wrs, List.take_succ_cons, List.take_succ_cons, wrs, wrs_take (n + 1) m ss]
theorem runS_full (D : List Sc) (n : Nat) (ss : List Sc) : runS D [] (wrs n ss ++ [.sync]) = (putAll D n ss, []) := by
  rw [runS_app, runS_wrs]
  show (putU D ([] ++ prs n ss), []) = _
  rw [List.nil_append, putU_prs]
theorem torn_nil {D D' : List Sc} (h : Torn D [] D') : ∀ i, scAt D' i = scAt D i := fun i => by
  rcases h i with k | ⟨s, hs, _⟩
  · exact k
  · cases hs
/-- an append, done or interrupted -/
theorem app_falls {D D' : List Sc} {g st hb b : Nat} {hist : List (Nat × PyData)} (h : DI D g st hb b hist) {ds : List PyData} (hg : ∀ d ∈ ds, GoodD d) {n : Nat} {ts : List Stp}
    (hts : ts = wrs (st + (lay g 0 hist).length) (allParts g b hist.length (ds.map pkL)) ++ (if ds.isEmpty then [] else [.sync])) (hn : n ≤ ts.length) (hT : Torn (runS D [] (ts.take n)).1 (runS D [] (ts.take n)).2 D') :
    ∃ m, m ≤ ds.length ∧ DI D' g st hb (b + 1) (hist ++ (ds.take m).map fun d => (b, d)) ∧ (n = ts.length → m = ds.length) := by
  have full : n = ts.length → ∃ m, m ≤ ds.length ∧ DI D' g st hb (b + 1) (hist ++ (ds.take m).map fun d => (b, d)) ∧ (n = ts.length → m = ds.length) := fun hn => by
    refine ⟨ds.length, Nat.le_refl _, ?_, fun _ => rfl⟩
    rw [hn, List.take_length, hts] at hT
    rw [List.take_length]
    have hA := (h.append ds hg).boot (Nat.le_succ b)
    cases he : ds.isEmpty with
    | true =>
      have hnil : ds = [] := List.isEmpty_iff.mp he
      subst hnil
      exact hA.congr (torn_nil hT)
    | false =>
      rw [he, if_neg Bool.false_ne_true, runS_full] at hT
      exact hA.congr (torn_nil hT)
  by_cases hnl : n = ts.length
  · exact full hnl
  · have hlt : n < ts.length := by omega
    have hle : n ≤ (allParts g b hist.length (ds.map pkL)).length := by
      rw [hts, List.length_append, wrs_len] at hlt
      split at hlt
      · simp only [List.length_nil] at hlt; omega
      · simp only [List.length_cons, List.length_nil] at hlt; omega
    have htk : ts.take n = wrs (st + (lay g 0 hist).length) ((allParts g b hist.length (ds.map pkL)).take n) := by
      rw [hts, List.take_append_of_le_length (by rw [wrs_len]; exact hle), wrs_take]
    rw [htk, runS_wrs, List.nil_append] at hT
    obtain ⟨m, hm, hD⟩ := h.tornApp hg (fun i s hs => prs_sub hs) hT
    exact ⟨m, hm, hD, fun z => absurd z hnl⟩
/-- a rewrite, done or interrupted -/
theorem rew_falls {D D' : List Sc} {g st hb b : Nat} {hist : List (Nat × PyData)} (h : DI D g st hb b hist) {ds : List PyData} (hg : ∀ d ∈ ds, GoodD d) {n s' : Nat} {ts : List Stp}
    (hs' : s' = newSt st (lay g 0 hist).length (allParts (g + 1) b 0 (ds.map pkL)).length)
    (hts : ts = wrs s' (allParts (g + 1) b 0 (ds.map pkL)) ++ [.sync, .wr ((g + 1) % 2) (.head (g + 1) s' b), .sync]) (hn : n ≤ ts.length) (hT : Torn (runS D [] (ts.take n)).1 (runS D [] (ts.take n)).2 D') :
    (n < ts.length ∧ DI D' g st hb (b + 1) hist) ∨ DI D' (g + 1) s' b (b + 1) (ds.map fun d => (b, d)) := by
  have hR := (h.rewrite ds hg s' (by rw [hs']; exact newSt_2 h.st2)).boot (Nat.le_succ b)
  have hl : ts.length = (allParts (g + 1) b 0 (ds.map pkL)).length + 3 := by rw [hts, List.length_append, wrs_len]; rfl
  have old : ∀ m D', Torn D (prs s' ((allParts (g + 1) b 0 (ds.map pkL)).take m)) D' → DI D' g st hb (b + 1) hist := fun m D' hT => h.tornRew (ds := ds) (fun i s hs => by rw [← hs']; exact prs_sub hs) hT
  have old1 : DI (putAll D s' (allParts (g + 1) b 0 (ds.map pkL))) g st hb (b + 1) hist := by
    refine old (allParts (g + 1) b 0 (ds.map pkL)).length _ fun i => ?_
    rw [List.take_length, scAt_putAll]
    by_cases hc : s' ≤ i ∧ i < s' + (allParts (g + 1) b 0 (ds.map pkL)).length
    · rw [if_pos hc]
      refine .inr ⟨_, ?_, rfl⟩
      have hx : ∀ (ss : List Sc) (n k : Nat), k < ss.length → (n + k, scAt ss k) ∈ prs n ss := by
        intro ss
        induction ss with
        | nil => intro n k hk; cases hk
        | cons x ss ih =>
          intro n k hk
          cases k with
          | zero => exact List.mem_cons_self
          | succ k =>
            rw [prs]
            have := ih (n + 1) k (by simpa using hk)
            rw [show n + 1 + k = n + (k + 1) by omega] at this
            exact List.mem_cons_of_mem _ this
      have := hx (allParts (g + 1) b 0 (ds.map pkL)) s' (i - s') (by omega)
      rw [show s' + (i - s') = i by omega] at this
      exact this
    · rw [if_neg hc]; exact .inl rfl
  have e3 : ts = (wrs s' (allParts (g + 1) b 0 (ds.map pkL)) ++ [.sync]) ++ ([.wr ((g + 1) % 2) (.head (g + 1) s' b)] ++ [.sync]) := by rw [hts, List.append_assoc]; rfl
  have hl1 : (wrs s' (allParts (g + 1) b 0 (ds.map pkL)) ++ [Stp.sync]).length = (allParts (g + 1) b 0 (ds.map pkL)).length + 1 := by rw [List.length_append, wrs_len]; rfl
  by_cases c1 : n ≤ (allParts (g + 1) b 0 (ds.map pkL)).length
  · have htk : ts.take n = wrs s' ((allParts (g + 1) b 0 (ds.map pkL)).take n) := by
      rw [hts, List.take_append_of_le_length (by rw [wrs_len]; exact c1), wrs_take]
    rw [htk, runS_wrs, List.nil_append] at hT
    exact .inl ⟨by omega, old n D' hT⟩
  · by_cases c2 : n = (allParts (g + 1) b 0 (ds.map pkL)).length + 1
    · have htk : ts.take n = wrs s' (allParts (g + 1) b 0 (ds.map pkL)) ++ [.sync] := by
        rw [e3, List.take_append_of_le_length (by omega), List.take_of_length_le (by omega)]
      rw [htk, runS_full] at hT
      exact .inl ⟨by omega, old1.congr (torn_nil hT)⟩
    · by_cases c3 : n = (allParts (g + 1) b 0 (ds.map pkL)).length + 2
      · have htk : ts.take n = (wrs s' (allParts (g + 1) b 0 (ds.map pkL)) ++ [.sync]) ++ [.wr ((g + 1) % 2) (.head (g + 1) s' b)] := by
          rw [e3, List.take_append, hl1, List.take_of_length_le (by omega), c3, show (allParts (g + 1) b 0 (ds.map pkL)).length + 2 - ((allParts (g + 1) b 0 (ds.map pkL)).length + 1) = 1 by omega]
          rfl
        rw [htk, runS_app, runS_full] at hT
        have hT : Torn (putAll D s' (allParts (g + 1) b 0 (ds.map pkL))) [((g + 1) % 2, .head (g + 1) s' b)] D' := hT
        rcases hT ((g + 1) % 2) with k | ⟨s, hs, k⟩
        · refine .inl ⟨by omega, old1.congr fun i => ?_⟩
          by_cases hi : i = (g + 1) % 2
          · rw [hi]; exact k
          · rcases hT i with z | ⟨s, hs, _⟩
            · exact z
            · rw [List.mem_singleton] at hs
              exact absurd (congrArg Prod.fst hs) hi
        · rw [List.mem_singleton] at hs
          have hs2 : s = .head (g + 1) s' b := congrArg Prod.snd hs
          refine .inr (hR.congr fun i => ?_)
          rw [scAt_setD]
          by_cases hi : i = (g + 1) % 2
          · rw [if_pos hi, hi, k, hs2]
          · rw [if_neg hi]
            rcases hT i with z | ⟨s, hs, _⟩
            · exact z
            · rw [List.mem_singleton] at hs
              exact absurd (congrArg Prod.fst hs) hi
      · have htk : ts.take n = (wrs s' (allParts (g + 1) b 0 (ds.map pkL)) ++ [.sync]) ++ ([.wr ((g + 1) % 2) (.head (g + 1) s' b)] ++ [.sync]) := by
          rw [List.take_of_length_le (by omega), e3]
        rw [htk, runS_app, runS_full] at hT
        exact .inr (hR.congr (torn_nil hT))
/-- the law's things at a turn's begin -/
structure WA (C : Addr) (K : PySem.W.Frag) (G : Hp) (ds : List Int) (hist : List (Nat × PyData)) (boot g st : Nat) (pd pj lj : Addr) : Prop where
  d : Ls G lj pd (ds.map V.int)
  jj : JAt C K G pj lj (js boot g st hist)
  gd : ∀ bd ∈ hist, RecD bd.2
theorem WA.same {C : Addr} {K : PySem.W.Frag} {G G' : Hp} {ds : List Int} {hist : List (Nat × PyData)} {boot g st : Nat} {pd pj lj : Addr} (h : WA C K G ds hist boot g st pd pj lj) (s : Same G G') : WA C K G' ds hist boot g st pd pj lj where
  d := h.d.same s
  jj := h.jj.fr (L := []) (Fr.same s) (FT.same s) (by simp) (by simp)
  gd := h.gd
/-- a list of records -/
def RL (K : PySem.W.Frag) (G : Hp) (lj p : Addr) (A : List PyData) : Prop := ∃ ys, Ls G lj p ys ∧ DpAll K G ys A
theorem RL.same {K : PySem.W.Frag} {G G' : Hp} {lj p : Addr} {A : List PyData} (h : RL K G lj p A) (s : Same G G') : RL K G' lj p A := by
  obtain ⟨ys, h1, h2⟩ := h
  exact ⟨ys, h1.same s, dpa_same s _ h2⟩
theorem RL.new {K : PySem.W.Frag} {G G' : Hp} {lj lj' p : Addr} {A : List PyData} (h : RL K G lj p A) (s : Same G G') (hl : G lj' = none) : RL K G' lj' p A := by
  obtain ⟨ys, h1, h2⟩ := h
  exact ⟨ys, h1.new s hl, dpa_same s _ h2⟩
theorem hist_rec {hist : List (Nat × PyData)} (h : ∀ bd ∈ hist, RecD bd.2) : ∀ d ∈ hist.map (·.2), RecD d := fun d hd => by
  obtain ⟨bd, hb, rfl⟩ := List.mem_map.mp hd
  exact h bd hb
/-- a list's cut of draws -/
theorem drawn_drop {ds : List Int} (n : Nat) (h : Drawn ds) : Drawn (ds.drop n) := fun d hd => h d (List.mem_of_mem_drop hd)
theorem runS_all {D : List Sc} {n : Nat} {ss : List Sc} {ts : List Stp} (h : ts = wrs n ss ++ [.sync]) : runS D [] ts = (carry D ts, []) := by
  rw [h, runS_full, carry_app, carry_wrs]; rfl
theorem runS_apT (D : List Sc) (j : JS) (ds : List PyData) : ∀ i, scAt (runS D [] (apT j ds)).1 i = scAt (carry D (apT j ds)) i := fun i => by
  unfold apT
  cases he : ds.isEmpty with
  | true =>
    have hnil : ds = [] := List.isEmpty_iff.mp he
    subst hnil
    rfl
  | false => rw [if_neg Bool.false_ne_true, runS_full, carry_app, carry_wrs]; rfl
/-- the sectors that records need -/
def room (ds : List PyData) : Nat := (allParts 0 0 0 (ds.map pkL)).length
theorem room_eq (g b r : Nat) (ds : List PyData) : (allParts g b r (ds.map pkL)).length = room ds := allParts_len _ _ _ _ _ _ _
theorem lay_room (g : Nat) : ∀ (i : Nat) (hist : List (Nat × PyData)), (lay g i hist).length = room (hist.map (·.2))
  | i, [] => rfl
  | i, bd :: h => by
    rw [lay, List.length_append, parts_len, lay_room g (i + 1) h, List.map_cons]
    unfold room
    rw [List.map_cons, allParts, List.length_append, parts_len, allParts_len 0 0 (0 + 1) 0 0 0]
theorem room_app (as bs : List PyData) : room (as ++ bs) = room as + room bs := by
  unfold room
  rw [List.map_append, allParts_app, List.length_append, allParts_len 0 0 (0 + (as.map pkL).length) 0 0 0]
theorem room_take (as : List PyData) (m : Nat) : room (as.take m) ≤ room as := by
  have := room_app (as.take m) (as.drop m)
  rw [List.take_append_drop] at this
  omega
theorem room_small {ds : List PyData} (h : ∀ d ∈ ds, RecD d) : room ds ≤ 5 * ds.length := parts_small h
def sp_lroom (K : PySem.W.Frag) : Sp := fun vs H Q _ => ∃ (a : Addr) (xs : List V) (ds : List PyData), vs = [.ref a] ∧ SqL K H a xs ∧ DpAll K H xs ds ∧ (∀ d ∈ ds, RecD d) ∧ ∀ H', Same H H' → Q (.int (room ds : Int)) H'
def InsA (M : Nat) : Stp → Prop
  | .wr n _ => ¬ (2 + 3 * M ≤ n ∧ 1 < n)
  | .sync => True
def sp_lins (K : PySem.W.Frag) : Sp := fun vs H Q _ => ∃ (a : Addr) (us : List V) (ts : List Stp) (M : Nat), vs = [.ref a, .int (M : Int)] ∧ SqL K H a us ∧ StpA K H us ts ∧ (∀ t ∈ ts, InsA M t) ∧ ∀ H', Same H H' → Q (.bl true) H'
section
variable {P : Program} {w : World} {K : PySem.W.Frag} {mg : Str → Option Value} {base : Heap}
theorem ok__law_room (T : TX K mg) : FnOk P w K mg base CX0 26 T.a__law_room T.d__law_room ["records"] (sp_lroom K) := by
  refine T.F__law_room.ok sc__law_room (fun vs H Q E h => ?_) (fun cdv A outer s H vs Q E hr h => ?_)
  · obtain ⟨a, xs, ds, rfl, _⟩ := h
    rfl
  · obtain ⟨a, xs, ds, rfl, hS, hds, hrec, q⟩ := h
    refine ⟨_, (pss_cons (ps_set (i := 1) sc__law_room.nd rfl (Or.inl rfl) pe_int)
      (pss_cons (ps_for PassesOwn.never rfl (pi_list (pv 0)) (pg_name (i := 2) sc__law_room.nd rfl (Or.inl rfl))
        (pss_one (ps_set (i := 1) sc__law_room.nd rfl (Or.inl rfl) (pe_op op_add (pv 1) (pe_call (ok_parts_needed T) (hr.mono (by decide)) (by rfl) T.g_parts_needed T.F_parts_needed.kp T.b_parts_needed .nil pass0 (pa_cons (pv 2) pa_nil))))))
      (pss_one (ps_ret (pv 1))))), ?_⟩
    have hxl := dpa_len hds
    refine ⟨_, rfl, a, rfl, ⟨_, hS⟩, for_list (K := K) (a := a) (xs := xs) (fun i σ G => ∃ x2 : Option V, σ = [some (.ref a), some (.int (room (ds.take i) : Int)), x2] ∧ Same H G) ⟨none, rfl, Same.refl _⟩ (fun i σ G _ h => by obtain ⟨_, _, s⟩ := h; exact s.seq hS) ?_ ?_⟩
    · rintro i v σ G hx ⟨x2, rfl, s1⟩
      obtain ⟨d, hdi, hdx⟩ := dpa_at hds hx
      have hrd := hrec d (List.mem_of_getElem? hdi)
      refine ⟨_, rfl, _, rfl, v, d, rfl, dp_same s1 _ hdx, hrd.o, by have := hrd.l; omega, fun H' s2 => ⟨_, _, rfl, rfl, some v, ?_, s1.trans s2⟩⟩
      have e1 : room [d] = pc (pkL d).length := by
        show (partsOf _ _ _ _ ++ []).length = _
        rw [List.append_nil, parts_len]
      rw [take_more hdi, room_app, e1]
      rfl
    · rintro σ G ⟨x2, rfl, s1⟩
      rw [hxl, List.take_length]
      exact ⟨_, rfl, q G s1⟩
theorem ok__law_inside (T : TX K mg) : FnOk P w K mg base CX0 2 T.a__law_inside T.d__law_inside ["steps", "most"] (sp_lins K) := by
  refine T.F__law_inside.ok sc__law_inside (fun vs H Q E h => ?_) (fun cdv A outer s H vs Q E hr h => ?_)
  · obtain ⟨a, us, ts, M, rfl, _⟩ := h
    rfl
  · obtain ⟨a, us, ts, M, rfl, hS, hT, hI, q⟩ := h
    refine ⟨_, (pss_cons (ps_for PassesOwn.never rfl (pi_list (pv 0)) (pg_name (i := 2) sc__law_inside.nd rfl (Or.inl rfl))
        (pss_one (ps_if (pt_cmpR op_eq (pe_ix ix_tup (pv 2) pe_int (fun _ _ => rfl)) pe_str (nomark _)) (pss_one (ps_if (PW.pt (pw_or (pt_not (pt_val (pe_call (ok__law_is_integer T) (hr.mono (by decide)) (by rfl) T.g__law_is_integer T.F__law_is_integer.kp T.b__law_is_integer .nil pass0 (pa_cons (pe_ix ix_tup (pv 2) pe_int (fun _ _ => rfl)) pa_nil)))) (pw_or (pt_cmpR op_lt (pe_ix ix_tup (pv 2) pe_int (fun _ _ => rfl)) pe_int (nomark _)) (pw_or1 (PW.pt (pw_and (pt_cmpR op_ge (pe_ix ix_tup (pv 2) pe_int (fun _ _ => rfl)) (pe_op op_add pe_int (pe_op op_mul pe_int (pv 1))) (nomark _)) (pw_and1 (pt_cmpR op_gt (pe_ix ix_tup (pv 2) pe_int (fun _ _ => rfl)) pe_int (nomark _))))))))) (pss_one (ps_ret pe_bl)) pss_nil)) pss_nil)))
      (pss_one (ps_ret pe_bl))), ?_⟩
    have htl := hT.l
    refine ⟨_, rfl, a, rfl, ⟨_, hS⟩, for_list (K := K) (a := a) (xs := us) (fun i σ G => (∃ x2 : Option V, σ = [some (.ref a), some (.int (M : Int)), x2]) ∧ H = G) ⟨⟨none, rfl⟩, rfl⟩ (fun i σ G _ h => by obtain ⟨_, rfl⟩ := h; exact hS) ?_ ?_⟩
    · rintro i v σ _ hx ⟨⟨x2, rfl⟩, rfl⟩
      have hi : i < us.length := (List.getElem?_eq_some_iff.mp hx).1
      have hti : ts[i]? = some (ts[i]'(by omega)) := List.getElem?_eq_getElem (by omega)
      obtain ⟨v', hv', hg⟩ := hT.a i _ hti
      obtain rfl : v' = v := by rw [hv'] at hx; exact Option.some.inj hx
      have hot := hI _ (List.mem_of_getElem? hti)
      generalize ts[i]'(by omega) = t at hti hg hot
      cases t with
      | sync =>
        obtain ⟨pz, rfl, hpz⟩ := hg
        exact ⟨_, rfl, pz, _, 0, .str "sync", rfl, rfl, hpz, atI_nat (j := 0) rfl, rfl, _, rfl, ifbf (decide_eq_false (by decide +kernel)) ⟨⟨_, rfl⟩, rfl⟩⟩
      | wr n sc =>
        obtain ⟨pw, q', rfl, h1, h2⟩ := hg
        refine ⟨_, rfl, pw, _, 0, .str "write", rfl, rfl, h1, atI_nat (j := 0) rfl, rfl, _, rfl, ifbt (decide_eq_true rfl) ?_⟩
        have a1 : atI [V.str "write", .int (n : Int), .ref q'] 1 = some (.int (n : Int)) := atI_nat (j := 1) rfl
        have hot : ¬ (2 + 3 * M ≤ n ∧ 1 < n) := hot
        refine or_use (x := false) (y := false) (fun R r => ⟨_, rfl, pw, _, 1, _, rfl, rfl, h1, a1, _, rfl, true, rfl, r⟩) (fun R r => or_use (x := false) (y := false) (fun R r => ⟨_, rfl, pw, _, 1, _, rfl, rfl, h1, a1, _, _, rfl, rfl, _, rfl, ?_⟩) (fun R r => ?_) r) (ifbf rfl ⟨⟨_, rfl⟩, rfl⟩)
        · rw [decide_eq_false (by omega)]; exact r
        · refine and_use (x := decide (2 + 3 * M ≤ n)) (y := decide (1 < n)) (fun R r => ⟨_, rfl, pw, _, 1, _, rfl, rfl, h1, a1, _, rfl, _, _, rfl, rfl, .inl ⟨by decide, by decide⟩, _, _, rfl, rfl, _, _, rfl, rfl, _, rfl, ?_⟩) (fun R r => ⟨_, rfl, pw, _, 1, _, rfl, rfl, h1, a1, _, _, rfl, rfl, _, rfl, ?_⟩) ?_
          · have : decide ((2 : Int) + 3 * (M : Int) ≤ (n : Int)) = decide (2 + 3 * M ≤ n) := by rw [Bool.eq_iff_iff, decide_eq_true_eq, decide_eq_true_eq]; omega
            rw [this]; exact r
          · have : decide ((1 : Int) < (n : Int)) = decide (1 < n) := by rw [Bool.eq_iff_iff, decide_eq_true_eq, decide_eq_true_eq]; omega
            rw [this]; exact r
          · have : (decide (2 + 3 * M ≤ n) && decide (1 < n)) = false := by
              rw [Bool.and_eq_false_iff, decide_eq_false_iff_not, decide_eq_false_iff_not]
              by_cases h : 2 + 3 * M ≤ n
              · exact .inr fun z => hot ⟨h, z⟩
              · exact .inl h
            rw [this]; exact r
    · rintro σ _ ⟨⟨x2, rfl⟩, rfl⟩
      exact q H (Same.refl _)
end
theorem putU_B {B : Nat} : ∀ (U : List (Nat × Sc)) (D : List Sc), D.length ≤ B → (∀ u ∈ U, u.1 < B) → (putU D U).length ≤ B
  | [], D, h, _ => h
  | u :: U, D, h, ho => by
    refine putU_B U (setD D u.1 u.2) ?_ fun w hw => ho w (by simp [hw])
    have := ho u (by simp)
    rw [setD_len]; omega
theorem runS_B {B : Nat} : ∀ (ts : List Stp) (D : List Sc) (U : List (Nat × Sc)), D.length ≤ B → (∀ u ∈ U, u.1 < B) → (∀ n s, Stp.wr n s ∈ ts → n < B) → (runS D U ts).1.length ≤ B ∧ ∀ u ∈ (runS D U ts).2, u.1 < B
  | [], D, U, h1, h2, _ => ⟨h1, h2⟩
  | t :: ts, D, U, h1, h2, h3 => by
    rw [runS]
    cases t with
    | sync => exact runS_B ts _ _ (putU_B U D h1 h2) (fun u hu => by cases hu) (fun n s h => h3 n s (by simp [h]))
    | wr n s =>
      refine runS_B ts _ _ h1 (fun u hu => ?_) (fun n s h => h3 n s (by simp [h]))
      rcases List.mem_append.mp hu with h | h
      · exact h2 u h
      · rw [List.mem_singleton.mp h]; exact h3 n s (by simp)
def FallR (D : List Sc) (ts : List Stp) (boot N G0 E0 M : Nat) : Prop := ∀ n D', n ≤ ts.length → Torn (runS D [] (ts.take n)).1 (runS D [] (ts.take n)).2 D' → ∃ hx gx sx bx, DI D' gx sx bx (boot + 1) hx ∧ (∀ bd ∈ hx, RecD bd.2) ∧ hx.length ≤ N ∧ gx ≤ G0 ∧ sx + (lay gx 0 hx).length ≤ E0 ∧ (lay gx 0 hx).length ≤ M ∧ sx ≤ 2 + 2 * M
theorem fallr_app {D : List Sc} {g st hb b N G0 E0 M : Nat} {hist : List (Nat × PyData)} (h : DI D g st hb b hist) (hr : ∀ bd ∈ hist, RecD bd.2) {ds : List PyData} (hg : ∀ d ∈ ds, RecD d) (h1 : hist.length + ds.length ≤ N) (h2 : g ≤ G0) (h3 : st + (lay g 0 hist).length + 5 * ds.length ≤ E0) (h4 : room (hist.map (·.2) ++ ds) ≤ M) (h5 : st ≤ 2 + 2 * M) :
    FallR D (apT (js b g st hist) ds) b N G0 E0 M := fun n D' hn hT => by
  have e1 : newP (js b g st hist) ds = allParts g b hist.length (ds.map pkL) := by unfold newP; dsimp only; rw [List.length_map]
  obtain ⟨m, hm, hD, hfull⟩ := app_falls h (fun d hd => (hg d hd).good) (ts := apT (js b g st hist) ds) (by unfold apT; rw [e1]) hn hT
  have hgm : ∀ d ∈ ds.take m, RecD d := fun d hd => hg d (List.mem_of_mem_take hd)
  have hl : (lay g 0 (hist ++ (ds.take m).map fun d => (b, d))).length = (lay g 0 hist).length + room (ds.take m) := by rw [lay_app, Nat.zero_add, lay_new, List.length_append, room_eq]
  have hr1 := room_take ds m
  have hr2 := room_small hg
  rw [room_app, ← lay_room g 0] at h4
  exact ⟨_, g, st, hb, hD, mem_new hr hgm, by rw [List.length_append, List.length_map, List.length_take]; omega, h2, by omega, by omega, h5⟩
theorem rew_start {g st hb b M : Nat} {D : List Sc} {hist : List (Nat × PyData)} (h : DI D g st hb b hist) {ds : List PyData} (h4 : room ds ≤ M) (h6 : (lay g 0 hist).length ≤ M) : rwS (js b g st hist) ds ≤ 2 + 2 * M ∧ rwS (js b g st hist) ds + room ds ≤ 2 + 3 * M := by
  have e : (newQ (js b g st hist) ds).length = room ds := room_eq _ _ _ _
  have := h.st2
  unfold rwS newSt
  rw [e]
  dsimp only
  split <;> omega
theorem fallr_rew {D : List Sc} {g st hb b N G0 E0 M : Nat} {hist : List (Nat × PyData)} (h : DI D g st hb b hist) (hr : ∀ bd ∈ hist, RecD bd.2) {ds : List PyData} (hg : ∀ d ∈ ds, RecD d) (h1 : hist.length + ds.length ≤ N) (h2 : g + 1 ≤ G0) (h3 : st + (lay g 0 hist).length + 5 * ds.length ≤ E0) (h4 : room ds ≤ M) (h5 : st ≤ 2 + 2 * M) (h6 : (lay g 0 hist).length ≤ M) :
    FallR D (rwT (js b g st hist) ds) b N G0 E0 M := fun n D' hn hT => by
  have hst := h.st2
  have hr2 := room_small hg
  rcases rew_falls (s' := rwS (js b g st hist) ds) h (fun d hd => (hg d hd).good) (ts := rwT (js b g st hist) ds) rfl rfl hn hT with ⟨hl, hD⟩ | hD
  · exact ⟨_, g, st, hb, hD, hr, by omega, by omega, by omega, h6, h5⟩
  · have hlen : (lay (g + 1) 0 (ds.map fun d => (b, d))).length = room ds := by rw [lay_new, room_eq]
    refine ⟨_, g + 1, _, b, hD, fun bd hbd => ?_, by rw [List.length_map]; omega, h2, ?_, by rw [hlen]; exact h4, (rew_start h h4 h6).1⟩
    · obtain ⟨d, hd, rfl⟩ := List.mem_map.mp hbd
      exact hg d hd
    · rw [hlen]
      have hs : rwS (js b g st hist) ds ≤ st + (lay g 0 hist).length := by unfold rwS newSt; dsimp only; split <;> omega
      omega
section
variable {P : Program} {w : World} {K : PySem.W.Frag} {mg : Str → Option Value} {base : Heap}
def sp_law (K : PySem.W.Frag) : Sp := fun vs H Q _ => ∃ (a : Addr) (ns : List Int), vs = [.ref a] ∧ SqL K H a (ns.map V.int) ∧ ns.length ≤ 63 ∧ ∀ H', Q (.bl true) H'
theorem ok_law (T : TX K mg) : FnOk P w K mg base CX0 48 T.a_law T.d_law ["script"] (sp_law K) := by
  refine T.F_law.ok sc_law (fun vs H Q E h => ?_) (fun cdv A outer s H vs Q E hr h => ?_)
  · obtain ⟨a, ns, rfl, _⟩ := h
    rfl
  · obtain ⟨a, ns, rfl, hS, hl, q⟩ := h
    refine ⟨_, (pss_cons (ps_set (i := 1) sc_law.nd rfl (Or.inl rfl) (pe_call (ok__law_draws T) (hr.mono (by decide)) (by rfl) T.g__law_draws T.F__law_draws.kp T.b__law_draws .nil pass0 (pa_cons (pv 0) (pa_cons pe_int pa_nil))))
      (pss_cons (ps_set (i := 2) sc_law.nd rfl (Or.inl rfl) pe_int)
      (pss_cons (ps_set (i := 3) sc_law.nd rfl (Or.inl rfl) (pe_lst pa_nil))
      (pss_cons (ps_set (i := 4) sc_law.nd rfl (Or.inl rfl) (pe_make T.M_Journal (ok_Journal___init__ T) (hr.mono (by decide)) (by rfl) T.g_Journal T.b_Journal___init__ .nil pass0 (pa_cons (pv 3) (pa_cons (pv 2) pa_nil))))
      (pss_cons (ps_set (i := 5) sc_law.nd rfl (Or.inl rfl) pe_int)
      (pss_cons (ps_for PassesOwn.never rfl (pi_range1 (by rfl) T.n_range (pa_cons (pe_op op_add pe_int (pe_op op_mod (pe_callTy call_int1 (by rfl) T.n_int (by decide +kernel) (pa_cons (pe_ix ix_list (pv 1) pe_int (fun _ _ => rfl)) pa_nil)) pe_int)) pa_nil)) (pg_name (i := 6) sc_law.nd rfl (Or.inl rfl))
        (pss_cons (ps_set (i := 7) sc_law.nd rfl (Or.inr rfl) (pe_slice sl_list (pv 1) (po_some (pe_op op_add pe_int (pe_op op_mul pe_int (pv 6)))) (po_some (pe_op op_add pe_int (pe_op op_mul pe_int (pv 6))))))
        (pss_cons (ps_setLc (i := 8) (own := [("k", 12)]) (g := gName 12) (tt := tYes) (by rfl) sc_law.nd rfl rfl (sw_true rfl rfl rfl (by decide +kernel)) (pi_range1 (by rfl) T.n_range (pa_cons (pe_op op_mod (pe_callTy call_int1 (by rfl) T.n_int (by decide +kernel) (pa_cons (pe_ix ix_list (pv 7) pe_int (fun _ _ => rfl)) pa_nil)) pe_int) pa_nil)) (blkOk_by (own := [("k", 12)]) (N := ["script", "draws", "boot", "disk", "journal", "most", "turn", "part", "added", "steps", "count", "left", "k"]) (sc := defScope s_law) (by decide +kernel)) (fun _ _ _ _ _ => pg_name (i := 12) sc_law.nd rfl (Or.inl rfl)) (fun _ _ _ _ _ => pts_nil) (fun _ _ _ _ _ => (pe_call (ok__law_record T) (hr.mono (by decide)) (by rfl) T.g__law_record T.F__law_record.kp T.b__law_record .nil pass0 (pa_cons (pe_slice (slK_list (K := K) rfl) (pv 7) (po_some (pe_op op_add pe_int (pe_op op_mul pe_int (pv 12)))) (po_some (pe_op op_add pe_int (pe_op op_mul pe_int (pv 12))))) pa_nil))))
        (C8.pss_cut (ps_if (pt_cmpR op_eq (pe_op op_mod (pe_ix ix_list (pv 7) pe_int (fun _ _ => rfl)) pe_int) pe_int (nomark _)) (pss_cons (ps_set (i := 5) sc_law.nd rfl (Or.inl rfl) (pe_callB (call_max2 rfl) (by rfl) T.n_max (by decide +kernel) (pa_cons (pv 5) (pa_cons (pe_call (ok__law_room T) (hr.mono (by decide)) (by rfl) T.g__law_room T.F__law_room.kp T.b__law_room .nil pass0 (pa_cons (pe_op op_cat (pe_meth0 (pv 4) T.K_Journal T.m_Journal_records (ok_Journal_records T) (hr.mono (by decide)) T.b_Journal_records .nil pass0) (pv 8)) pa_nil)) pa_nil))))
          (pss_one (ps_set (i := 9) sc_law.nd rfl (Or.inl rfl) (pe_meth (pv 4) T.K_Journal T.m_Journal_append (ok_Journal_append T) (hr.mono (by decide)) T.b_Journal_append .nil pass0 (pa_cons (pv 8) pa_nil))))) (pss_cons (ps_set (i := 5) sc_law.nd rfl (Or.inl rfl) (pe_callB (call_max2 rfl) (by rfl) T.n_max (by decide +kernel) (pa_cons (pv 5) (pa_cons (pe_call (ok__law_room T) (hr.mono (by decide)) (by rfl) T.g__law_room T.F__law_room.kp T.b__law_room .nil pass0 (pa_cons (pv 8) pa_nil)) pa_nil))))
          (pss_one (ps_set (i := 9) sc_law.nd rfl (Or.inl rfl) (pe_meth (pv 4) T.K_Journal T.m_Journal_rewrite (ok_Journal_rewrite T) (hr.mono (by decide)) T.b_Journal_rewrite .nil pass0 (pa_cons (pv 8) pa_nil))))))
        (pss_cons (ps_if (pt_not (pt_val (pe_call (ok__law_inside T) (hr.mono (by decide)) (by rfl) T.g__law_inside T.F__law_inside.kp T.b__law_inside .nil pass0 (pa_cons (pv 9) (pa_cons (pv 5) pa_nil))))) (pss_one (ps_ret pe_bl)) pss_nil)
        (pss_cons (ps_set (i := 10) sc_law.nd rfl (Or.inl rfl) (pe_callB call_len_seq (by rfl) T.n_len PySem.boot_len (pa_cons (pv 9) pa_nil)))
        (C8.pss_cut (ps_if (pt_cmpR op_eq (pe_op op_mod (pe_ix ix_list (pv 7) pe_int (fun _ _ => rfl)) pe_int) pe_int (nomark _)) (pss_one (ps_set (i := 10) sc_law.nd rfl (Or.inl rfl) (pe_op op_mod (pe_callTy call_int1 (by rfl) T.n_int (by decide +kernel) (pa_cons (pe_ix ix_list (pv 7) pe_int (fun _ _ => rfl)) pa_nil)) (pe_op op_add (pe_callB call_len_seq (by rfl) T.n_len PySem.boot_len (pa_cons (pv 9) pa_nil)) pe_int)))) pss_nil)
        (pss_cons (ps_set (i := 11) sc_law.nd rfl (Or.inl rfl) (pe_call (ok__law_run_steps T) (hr.mono (by decide)) (by rfl) T.g__law_run_steps T.F__law_run_steps.kp T.b__law_run_steps .nil pass0 (pa_cons (pv 3) (pa_cons (pv 9) (pa_cons (pv 10) pa_nil)))))
        (pss_cons (ps_set (i := 3) sc_law.nd rfl (Or.inl rfl) (pe_call (ok__law_fall T) (hr.mono (by decide)) (by rfl) T.g__law_fall T.F__law_fall.kp T.b__law_fall .nil pass0 (pa_cons (pe_ix ix_tup (pv 11) pe_int (fun _ _ => rfl)) (pa_cons (pe_ix ix_tup (pv 11) pe_int (fun _ _ => rfl)) (pa_cons (pe_slice sl_list (pv 7) (po_some pe_int) po_none) pa_nil)))))
        (pss_one (ps_if (pt_cmpR op_eq (pe_op op_mod (pe_ix ix_list (pv 7) pe_int (fun _ _ => rfl)) pe_int) pe_int (nomark _)) (pss_cons (ps_set (i := 2) sc_law.nd rfl (Or.inl rfl) (pe_op op_add (pv 2) pe_int))
          (pss_one (ps_set (i := 4) sc_law.nd rfl (Or.inl rfl) (pe_make T.M_Journal (ok_Journal___init__ T) (hr.mono (by decide)) (by rfl) T.g_Journal T.b_Journal___init__ .nil pass0 (pa_cons (pv 3) (pa_cons (pv 2) pa_nil)))))) pss_nil)))))))))))
      (pss_one (ps_ret (pe_cmpR op_le (pe_callB call_len_seq (by rfl) T.n_len PySem.boot_len (pa_cons (pv 3) pa_nil)) (pe_op op_add pe_int (pe_op op_mul pe_int (pv 5))) (nomark _)))))))))), ?_⟩
    refine ⟨_, rfl, a, ns, 700, rfl, hS, hl, by decide, fun pd H1 ds _ s1 ed hd hdl => ?_⟩
    have hat : ∀ k : Nat, k < 700 → ∃ d, atI (ds.map V.int) (k : Int) = some (.int d) ∧ 0 ≤ d ∧ d < 997 := fun k hk => by
      have hk' : k < ds.length := by omega
      exact ⟨ds[k], at_map (List.getElem?_eq_getElem hk'), hd _ (List.getElem_mem hk')⟩
    obtain ⟨d0, hd0, a0, b0⟩ := hat 0 (by decide)
    refine ⟨Nat.zero_le _, fun pk hpk => ?_⟩
    have s2 := same_upd (o := .lst []) hpk
    have ek2 : (upd H1 pk (.lst [])) pk = some (.lst []) := upd_same
    have ed2 := s2 _ _ ed
    generalize upd H1 pk (.lst []) = H2 at s2 ek2 ed2
    have hA0 : SvA K H2 [] [] := ⟨rfl, fun i s hs => by simp at hs, fun s hs => by cases hs⟩
    have hDI0 := DI.empty 1
    refine ⟨_, rfl, _, rfl, fun pj dx hpj hdx hne => mk_j (boot := 1) rfl ek2 hA0 hDI0 (by decide) hpj hdx hne (fun lj H3 hlj s3 hJ => ⟨rfl, ?_⟩)⟩
    have ls : ∀ {y : Addr} {zs : List V}, H2 y = some (.lst zs) → Ls H3 lj y zs := fun h => ⟨s3 _ _ h, fun z => by rw [z, hlj] at h; cases h⟩
    have hW : WA T.a_Journal K H3 ds [] 1 0 2 pd pj lj := ⟨ls ed2, hJ, fun bd h => by cases h⟩
    have hK : DK K H3 lj pk [] := ⟨⟨[], ls ek2, hA0.same s3⟩, Nat.zero_le _⟩
    clear hJ s3 ek2 ed2 s2 hpk hpj hdx hne ls hA0
    refine ⟨_, rfl, pd, _, 0, _, rfl, rfl, sql hW.d.1, hd0, .inl ⟨_, rfl, _, _, rfl, rfl, (by show (0 : Int) < _; decide), _, _, rfl, rfl, _, rfl, by omega, by omega, ?_⟩⟩
    refine for_range (lo := 0) (n := _) (fun i σ G => ∃ (hist : List (Nat × PyData)) (D : List Sc) (boot g st hb M : Nat) (pk pj lj : Addr) (x6 x7 x8 x9 x10 x11 x12 : Option V), σ = [some (.ref a), some (.ref pd), some (.int (boot : Int)), some (.ref pk), some (.ref pj), some (.int (M : Int)), x6, x7, x8, x9, x10, x11, x12] ∧ WA T.a_Journal K G ds hist boot g st pd pj lj ∧ DK K G lj pk D ∧ DI D g st hb boot hist ∧ hist.length ≤ 2 * i ∧ boot ≤ 1 + i ∧ g ≤ i ∧ st + (lay g 0 hist).length ≤ 2 + 10 * i ∧ (lay g 0 hist).length ≤ M ∧ st ≤ 2 + 2 * M ∧ D.length ≤ 2 + 3 * M)
      ⟨[], [], 1, 0, 2, 0, 0, pk, pj, lj, none, none, none, none, none, none, none, rfl, hW, hK, hDI0, Nat.zero_le _, Nat.le_refl _, Nat.le_refl _, Nat.le_refl _, Nat.zero_le _, Nat.le_refl _, Nat.zero_le _⟩ ?_ ?_
    · clear hW hK hDI0 hlj pk pj lj dx H2 H3
      rintro t σ G ht ⟨hist, D, boot, g, st, hb, M, pk, pj, lj, x6, x7, x8, x9, x10, x11, x12, rfl, hW, hK, hDI, hhl, hbt, hgt, hst, hM1, hM2, hM3⟩
      have ht12 : t < 29 := by omega
      have eA : (1 : Int) + 23 * (0 + (t : Int)) = ((1 + 23 * t : Nat) : Int) := by omega
      have eB : (24 : Int) + 23 * (0 + (t : Int)) = ((24 + 23 * t : Nat) : Int) := by omega
      refine ⟨_, rfl, _, rfl, _, _, rfl, rfl, .inl ⟨by decide, by decide⟩, _, _, rfl, rfl, _, rfl, _, rfl, _, _, rfl, rfl, .inl ⟨by decide, by decide⟩, _, _, rfl, rfl, _, rfl, pd, _, rfl, sql hW.d.1, fun pp hpp => ?_⟩
      rw [cut_ints ds eA eB]
      have hcl : ((ds.drop (1 + 23 * t)).take (24 + 23 * t - (1 + 23 * t))).length = 23 := by rw [List.length_take, List.length_drop]; omega
      have hcd : Drawn ((ds.drop (1 + 23 * t)).take (24 + 23 * t - (1 + 23 * t))) := fun x hx => hd x (List.mem_of_mem_drop (List.mem_of_mem_take hx))
      generalize (ds.drop (1 + 23 * t)).take (24 + 23 * t - (1 + 23 * t)) = part at hcl hcd
      have s7 := same_upd (o := .lst (part.map V.int)) hpp
      have ep : (upd G pp (.lst (part.map V.int))) pp = some (.lst (part.map V.int)) := upd_same
      have hW1 := hW.same s7
      have hK1 := hK.same s7
      have npp : pp ≠ lj := by
        obtain ⟨_, h3, _⟩ := hW.jj.rl
        exact fun z => by rw [z, h3] at hpp; cases hpp
      generalize upd G pp (.lst (part.map V.int)) = G1 at s7 ep hW1 hK1
      clear hW hK s7 hpp
      have lp : Ls G1 lj pp (part.map V.int) := ⟨ep, npp⟩
      clear ep npp
      have gp : ∀ {j : Nat} (h : j < part.length), atI (part.map V.int) (j : Int) = some (.int part[j]) := fun h => at_map (List.getElem?_eq_getElem h)
      have hbp : ∀ {j : Nat} (h : j < part.length), 0 ≤ part[j] ∧ part[j] < 997 := fun h => hcd _ (List.getElem_mem h)
      have b0 := hbp (show 0 < part.length by omega)
      have b1 := hbp (show 1 < part.length by omega)
      have b2 := hbp (show 2 < part.length by omega)
      have b3 := hbp (show 3 < part.length by omega)
      have g0 := gp (show 0 < part.length by omega)
      have g1 := gp (show 1 < part.length by omega)
      have g2 := gp (show 2 < part.length by omega)
      have g3 := gp (show 3 < part.length by omega)
      generalize part[0] = q0 at b0 g0
      generalize part[1] = q1 at b1 g1
      generalize part[2] = q2 at b2 g2
      generalize part[3] = q3 at b3 g3
      refine ⟨_, rfl, pp, _, 1, .int q1, rfl, rfl, sql lp.1, g1, .inl ⟨_, rfl, _, _, rfl, rfl, (by show (0 : Int) < _; decide), _, rfl, by omega, by omega, fun pa hpa => ?_⟩⟩
      refine lc_range (lo := 0) (n := _) (fun k H' => Same G1 H' ∧ ∃ (vs : List V) (as : List PyData), H' pa = some (.lst vs) ∧ DpAll K H' vs as ∧ (∀ d ∈ as, RecD d) ∧ as.length = k) ⟨same_upd hpa, [], [], upd_same, .nil, (fun _ z => by cases z), rfl⟩ ?_ ?_
      · rintro k H3 hk ⟨s3, vs, as, e3, hds, hrs, hal⟩
        have hk3 : k < 2 := by omega
        refine ⟨rfl, ?_⟩
        dsimp only [tYes]
        refine (if_pos rfl).mpr ?_
        have fA : (4 : Int) + 8 * (0 + (k : Int)) = ((4 + 8 * k : Nat) : Int) := by omega
        have fB : (12 : Int) + 8 * (0 + (k : Int)) = ((12 + 8 * k : Nat) : Int) := by omega
        refine ⟨_, rfl, _, rfl, _, _, rfl, rfl, .inl ⟨by decide, by decide⟩, _, _, rfl, rfl, _, rfl, _, rfl, _, _, rfl, rfl, .inl ⟨by decide, by decide⟩, _, _, rfl, rfl, _, rfl, pp, _, rfl, sql (s3 _ _ lp.1), fun ps hps => ?_⟩
        dsimp only
        rw [cut_ints part fA fB]
        have s4 := same_upd (o := .lst (((part.drop (4 + 8 * k)).take (12 + 8 * k - (4 + 8 * k))).map V.int)) hps
        refine ⟨ps, _, rfl, sql upd_same, fun x hx => hcd x (List.mem_of_mem_drop (List.mem_of_mem_take hx)), by rw [List.length_take, List.length_drop]; omega, fun v d H4 s5 hdv hrec => ?_⟩
        have s45 := s4.trans s5
        have e4 := s45 _ _ e3
        have hvl := dpa_len hds
        have ft : FT H4 (upd H4 pa (.lst (vs ++ [v]))) := .up e4 rfl
        have hrs' : ∀ x ∈ as ++ [d], RecD x := fun x hx => by
          rcases List.mem_append.mp hx with h1 | h1
          · exact hrs x h1
          · rw [List.mem_singleton.mp h1]; exact hrec
        exact ⟨vs, e4, szl (by omega), same_put (s3.trans s45) hpa, vs ++ [v], as ++ [d], upd_same, dpa_good ft (fun x hx => (hrs' x hx).good) (dpa_app (dpa_same s45 _ hds) (.cons hdv .nil)), hrs', by rw [List.length_append, hal]; rfl⟩
      rintro G3 ⟨s3, vs, as, ea, hds, hrs, hal⟩
      have has : as.length ≤ 2 := by omega
      clear hal
      have hgas : ∀ d ∈ as, GoodD d := fun d hd => (hrs d hd).good
      have hvl := dpa_len hds
      have la : Ls G3 lj pa vs := ⟨ea, by
        obtain ⟨_, h2, -⟩ := hW1.jj.rl
        exact fun z => by rw [z, h2] at hpa; cases hpa⟩
      have hW3 := hW1.same s3
      have hK3 := hK1.same s3
      have lp3 := lp.same s3
      clear hW1 hK1 lp s3 hpa ea b1 g1 G1
      have hra := room_small hrs
      have hls := lay_small (g := g) 0 hist hW3.gd
      refine ⟨fun σ' G' => ∃ (hist' : List (Nat × PyData)) (g' st' hb' M' : Nat) (py lj' : Addr) (us : List V) (ts : List Stp), σ' = [some (.ref a), some (.ref pd), some (.int (boot : Int)), some (.ref pk), some (.ref pj), some (.int (M' : Int)), some (.int (0 + (t : Int))), some (.ref pp), some (.ref pa), some (.ref py), x10, x11, x12] ∧ WA T.a_Journal K G' ds hist' boot g' st' pd pj lj' ∧ DK K G' lj' pk D ∧ Ls G' lj' pp (part.map V.int) ∧ Ls G' lj' py us ∧ StpA K G' us ts ∧ (∀ t ∈ ts, StpOk t) ∧ okR [] ts ∧ ts.length ≤ 40 ∧ (∀ t ∈ ts, InsA M' t) ∧ M ≤ M' ∧ (runS D [] ts).2 = [] ∧ DI (runS D [] ts).1 g' st' hb' boot hist' ∧ FallR D ts boot (2 * (t + 1)) (t + 1) (2 + 10 * (t + 1)) M' ∧ hist'.length ≤ 2 * (t + 1) ∧ g' ≤ t + 1 ∧ st' + (lay g' 0 hist').length ≤ 2 + 10 * (t + 1) ∧ (lay g' 0 hist').length ≤ M' ∧ st' ≤ 2 + 2 * M', ?_, ?_⟩
      · obtain ⟨dx, ob⟩ := hW3.jj.ob
        obtain ⟨_, hlj3, -⟩ := hW3.jj.rl
        have hNl' : (newQ (js boot g st hist) as).length = room as := room_eq _ _ _ _
        have e1 : newP (js boot g st hist) as = allParts g boot hist.length (as.map pkL) := by unfold newP; dsimp only; rw [List.length_map]
        have hPl' : (newP (js boot g st hist) as).length = room as := by rw [e1]; exact room_eq _ _ _ _
        have hrh := hist_rec hW3.gd
        refine ⟨_, rfl, pp, _, 2, .int q2, rfl, rfl, sql lp3.1, g2, _, _, rfl, rfl, (by show (0 : Int) < _; decide), rfl, _, rfl, ifd (fun hx => ?_) (fun hx => ?_)⟩
        · -- an append
          refine ⟨_, rfl, _, rfl, pj, dx, _, rfl, ob, fl_Journal_no_records, pj, lj, _, rfl, hW3.jj, fun r ys G4 hr0 s4 er hys => ?_⟩
          have hys : DpAll K G4 ys (hist.map (·.2)) := hys
          have hyl := dpa_len hys
          rw [List.length_map] at hyl
          refine ⟨_, rfl, r, pa, ys, vs, rfl, rfl, er, (la.same s4).1, sz (by omega), fun pn hpn => ?_⟩
          have s5 := same_upd (o := .lst (ys ++ vs)) hpn
          have en5 : (upd G4 pn (.lst (ys ++ vs))) pn = some (.lst (ys ++ vs)) := upd_same
          have hdn := dpa_app (dpa_same s5 _ hys) (dpa_same (s4.trans s5) _ hds)
          have s45 := s4.trans s5
          generalize upd G4 pn (.lst (ys ++ vs)) = G5 at s5 en5 hdn s45
          refine ⟨pn, _, _, rfl, sql en5, hdn, (fun d hd => by
            rcases List.mem_append.mp hd with h | h
            · exact hrh d h
            · exact hrs d h), fun G6 s6 => ?_⟩
          have hrm : room (hist.map (·.2) ++ as) = (lay g 0 hist).length + room as := by rw [room_app, ← lay_room g 0]
          obtain ⟨M', hM'⟩ : ∃ M' : Nat, (if (room (hist.map (·.2) ++ as) : Int) > (M : Int) then (room (hist.map (·.2) ++ as) : Int) else (M : Int)) = (M' : Int) ∧ M ≤ M' ∧ room (hist.map (·.2) ++ as) ≤ M' := ⟨max M (room (hist.map (·.2) ++ as)), by split <;> omega, by omega, by omega⟩
          obtain ⟨hM', hMM, hrM⟩ := hM'
          refine ⟨_, _, rfl, ?_⟩
          dsimp only
          rw [hM']
          have s46 := s45.trans s6
          have hW6 := hW3.same s46
          obtain ⟨dx, ob⟩ := hW6.jj.ob
          obtain ⟨_, hlj6, -⟩ := hW6.jj.rl
          refine ⟨_, rfl, pj, dx, _, rfl, ob, fl_Journal_no_append, _, rfl, pj, lj, pa, vs, js boot g st hist, as, rfl, hW6.jj, (la.same s46).1, la.2, dpa_same s46 _ hds, hgas, by dsimp only; rw [List.length_map]; omega, by show boot < 2097152; omega, by show g < 2097152; omega, by omega, fun py zs G7 hpy fr ft hJ epy hst7 => ?_⟩
          have kp : ∀ {y : Addr} {zs : List V}, Ls G6 lj y zs → Ls G7 lj y zs := fun h => h.fr ob fr
          have nyl : py ≠ lj := fun z => by rw [z, hlj6] at hpy; cases hpy
          have hlay : (lay g 0 (hist ++ as.map fun d => (boot, d))).length = (lay g 0 hist).length + (newP (js boot g st hist) as).length := by rw [lay_app, Nat.zero_add, lay_new, List.length_append, e1]
          have hJ' : JAt T.a_Journal K G7 pj lj (js boot g st (hist ++ as.map fun d => (boot, d))) := by
            show JAt _ _ _ _ _ ⟨_, _, _, (lay g 0 (hist ++ as.map fun d => (boot, d))).length, (hist ++ as.map fun d => (boot, d)).map (·.2)⟩
            rw [hist_map, hlay]
            exact hJ
          obtain ⟨xs, ek, hD⟩ := hK3.k
          have ft07 := (FT.same s46).trans ft
          have hst7' : StpA K G7 zs (apT (js boot g st hist) as) := by
            obtain ⟨ws, hw, hsy⟩ := hst7
            unfold apT
            cases he : as.isEmpty with
            | true =>
              rw [he] at hsy
              rw [hsy, if_pos rfl, List.append_nil]
              exact hw.stp
            | false =>
              rw [he] at hsy
              obtain ⟨v, hv, hsv⟩ := hsy
              rw [hv, if_neg Bool.false_ne_true]
              exact hw.stp.app (.cons hsv .nil)
          refine ⟨hist ++ as.map fun d => (boot, d), g, st, hb, M', py, lj, zs, apT (js boot g st hist) as, rfl, ⟨kp hW6.d, hJ', mem_new hW3.gd hrs⟩, ⟨⟨xs, kp (ek.same s46), hD.ft ft07⟩, hK3.l⟩, kp (lp3.same s46), ⟨epy, nyl⟩, hst7', ?_, ?_, ?_, ?_, hMM, ?_, ?_, fallr_app hDI hW3.gd hrs (by omega) (by omega) (by omega) hrM (by omega), by rw [List.length_append, List.length_map]; omega, by omega, by rw [hlay]; omega, by rw [hlay]; omega, by omega⟩
          · intro u hu
            unfold apT at hu
            rcases List.mem_append.mp hu with h | h
            · obtain ⟨k, sc, rfl, h1, h2, h3⟩ := wrs_mem h
              rw [e1] at h1
              have h3 : k < st + (lay g 0 hist).length + (newP (js boot g st hist) as).length := h3
              exact ⟨all_ok (g := g) (b := boot) (by omega) (by omega) hist.length as hrs (by omega) sc h1, by omega⟩
            · split at h
              · cases h
              · rw [List.mem_singleton.mp h]; exact True.intro
          · unfold apT
            refine okR_wrs _ _ _ _ (fun i hi => by cases hi) fun idx => ?_
            split <;> exact True.intro
          · unfold apT
            rw [List.length_append, wrs_len]
            split
            · simp only [List.length_nil]; omega
            · simp only [List.length_cons, List.length_nil]; omega
          · intro u hu
            unfold apT at hu
            rcases List.mem_append.mp hu with h | h
            · obtain ⟨k, sc, rfl, h1, h2, h3⟩ := wrs_mem h
              have h3 : k < st + (lay g 0 hist).length + (newP (js boot g st hist) as).length := h3
              show ¬ (2 + 3 * M' ≤ k ∧ 1 < k)
              omega
            · split at h
              · cases h
              · rw [List.mem_singleton.mp h]; exact True.intro
          · unfold apT
            cases he : as.isEmpty with
            | true =>
              have hnil : as = [] := List.isEmpty_iff.mp he
              subst hnil
              rfl
            | false => rw [if_neg Bool.false_ne_true, runS_full]
          · have := hDI.append as hgas
            rw [← e1] at this
            refine this.congr fun i => ?_
            rw [runS_apT]
            unfold apT
            rw [carry_app, carry_wrs]
            split <;> rfl
        · -- a rewrite
          refine ⟨_, rfl, _, rfl, pa, vs, as, rfl, sql la.1, hds, hrs, fun G6 s6 => ?_⟩
          obtain ⟨M', hM'⟩ : ∃ M' : Nat, (if (room as : Int) > (M : Int) then (room as : Int) else (M : Int)) = (M' : Int) ∧ M ≤ M' ∧ room as ≤ M' := ⟨max M (room as), by split <;> omega, by omega, by omega⟩
          obtain ⟨hM', hMM, hrM⟩ := hM'
          refine ⟨_, _, rfl, ?_⟩
          dsimp only
          rw [hM']
          obtain ⟨hs1, hs2⟩ := rew_start hDI hrM (show (lay g 0 hist).length ≤ M' by omega)
          have hrl : rwS (js boot g st hist) as ≤ 2 + 10 * t := by
            have := hDI.st2
            unfold rwS newSt
            dsimp only
            split <;> omega
          have hW6 := hW3.same s6
          obtain ⟨dx, ob⟩ := hW6.jj.ob
          refine ⟨_, rfl, pj, dx, _, rfl, ob, fl_Journal_no_rewrite, _, rfl, pj, lj, pa, vs, js boot g st hist, as, rfl, hW6.jj, (la.same s6).1, dpa_same s6 _ hds, hgas, by omega, by show boot < 2097152; omega, by show g + 1 < 2097152; omega, hDI.st2, by omega, by omega, fun py zs lj2 G7 hpy hlj7 nyl fr ft hJ epy hst7 => ?_⟩
          have fr2 : Fr [pj, lj] G6 G7 := fr.mono (by simp)
          have kp : ∀ {y : Addr} {zs : List V}, Ls G6 lj y zs → Ls G7 lj2 y zs := fun h => ⟨(h.fr ob fr2).1, fun z => by have := h.1; rw [z, hlj7] at this; cases this⟩
          have hlen' : (lay (g + 1) 0 (as.map fun d => (boot, d))).length = (newQ (js boot g st hist) as).length := by rw [lay_new]; rfl
          have hJ' : JAt T.a_Journal K G7 pj lj2 (js boot (g + 1) (rwS (js boot g st hist) as) (as.map fun d => (boot, d))) := by
            show JAt _ _ _ _ _ ⟨_, _, _, (lay (g + 1) 0 (as.map fun d => (boot, d))).length, (as.map fun d => (boot, d)).map (·.2)⟩
            rw [new_map, hlen']
            exact hJ
          obtain ⟨xs, ek, hD⟩ := hK3.k
          have ft07 := (FT.same s6).trans ft
          refine ⟨as.map fun d => (boot, d), g + 1, rwS (js boot g st hist) as, boot, M', py, lj2, zs, rwT (js boot g st hist) as, rfl, ⟨kp hW6.d, hJ', fun bd hbd => by obtain ⟨d, hd, rfl⟩ := List.mem_map.mp hbd; exact hrs d hd⟩, ⟨⟨xs, kp (ek.same s6), hD.ft ft07⟩, hK3.l⟩, kp (lp3.same s6), ⟨epy, nyl⟩, hst7, ?_, ?_, ?_, ?_, hMM, ?_, ?_, fallr_rew hDI hW3.gd hrs (by omega) (by omega) (by omega) hrM (by omega) (by omega), by rw [List.length_map]; omega, by omega, by rw [hlen']; omega, by rw [hlen']; omega, hs1⟩
          · intro u hu
            unfold rwT at hu
            rcases List.mem_append.mp hu with h | h
            · obtain ⟨k, sc, rfl, h1, h2, h3⟩ := wrs_mem h
              exact ⟨all_ok (g := g + 1) (b := boot) (by omega) (by omega) 0 as hrs (by omega) sc h1, by omega⟩
            · simp only [List.mem_cons, List.not_mem_nil, or_false] at h
              rcases h with rfl | rfl | rfl
              · exact True.intro
              · exact ⟨⟨by show g + 1 < 2097152; omega, by omega, by show boot < 2097152; omega⟩, by have := Nat.mod_lt (g + 1) (show 0 < 2 by decide); show (g + 1) % 2 < 40000; omega⟩
              · exact True.intro
          · exact okR_wrs _ _ _ _ (fun i hi => by cases hi) fun idx => ⟨by simp, True.intro⟩
          · unfold rwT
            rw [List.length_append, wrs_len]
            simp only [List.length_cons, List.length_nil]
            omega
          · intro u hu
            unfold rwT at hu
            rcases List.mem_append.mp hu with h | h
            · obtain ⟨k, sc, rfl, h1, h2, h3⟩ := wrs_mem h
              show ¬ (2 + 3 * M' ≤ k ∧ 1 < k)
              omega
            · simp only [List.mem_cons, List.not_mem_nil, or_false] at h
              rcases h with rfl | rfl | rfl
              · exact True.intro
              · show ¬ (2 + 3 * M' ≤ (g + 1) % 2 ∧ 1 < (g + 1) % 2)
                omega
              · exact True.intro
          · have h3 : rwT (js boot g st hist) as = (wrs (rwS (js boot g st hist) as) (newQ (js boot g st hist) as) ++ [.sync]) ++ [.wr ((g + 1) % 2) (.head (g + 1) (rwS (js boot g st hist) as) boot), .sync] := by unfold rwT; rw [List.append_assoc]; rfl
            rw [h3, runS_app, runS_full]
            rfl
          · have h3 : rwT (js boot g st hist) as = (wrs (rwS (js boot g st hist) as) (newQ (js boot g st hist) as) ++ [.sync]) ++ [.wr ((g + 1) % 2) (.head (g + 1) (rwS (js boot g st hist) as) boot), .sync] := by unfold rwT; rw [List.append_assoc]; rfl
            rw [h3, runS_app, runS_full]
            exact hDI.rewrite as hgas (rwS (js boot g st hist) as) (newSt_2 hDI.st2)
      · clear hW3 hK3 la lp3 hds hDI hhl hgt hst hM1 hM2 hls hra b2 g2
        rintro σ G5 ⟨hist', g', st', hb', M', py, lj', us, ts, rfl, hW5, hK5, lp5, ly5, hu5, hok5, hokR5, htl5, hin5, hMM, hrun2, hDI5, hF5, hhl', hgt', hst', hM1', hM2'⟩
        obtain ⟨xs, ek, hD⟩ := hK5.k
        have hul := hu5.l
        refine ⟨_, rfl, _, rfl, py, us, ts, M', rfl, sql ly5.1, hu5, hin5, fun G6 s6 => ⟨true, rfl, ifbf rfl ?_⟩⟩
        have hW6 := hW5.same s6
        have lp6 := lp5.same s6
        have ly6 := ly5.same s6
        have hu6 := hu5.same s6
        have ek6 := ek.same s6
        have hD6 := hD.same s6
        refine ⟨_, rfl, py, us, rfl, .inl (sql ly6.1), ?_⟩
        refine ⟨fun σ' G' => ∃ n : Nat, n ≤ ts.length ∧ (q0 % 4 ≠ 0 → n = ts.length) ∧ σ' = [some (.ref a), some (.ref pd), some (.int (boot : Int)), some (.ref pk), some (.ref pj), some (.int (M' : Int)), some (.int (0 + (t : Int))), some (.ref pp), some (.ref pa), some (.ref py), some (.int (n : Int)), x11, x12] ∧ G6 = G', ?_, ?_⟩
        · refine ⟨_, rfl, pp, _, 0, .int q0, rfl, rfl, sql lp6.1, g0, _, _, rfl, rfl, (by show (0 : Int) < _; decide), rfl, _, rfl, ifd (fun hx => ?_) (fun hx => ⟨us.length, by omega, fun _ => hul, rfl, rfl⟩)⟩
          obtain ⟨n, hn⟩ : ∃ n : Nat, q3 % ((us.length : Int) + 1) = (n : Int) := ⟨(q3 % ((us.length : Int) + 1)).toNat, by have := Int.emod_nonneg q3 (show (us.length : Int) + 1 ≠ 0 by omega); omega⟩
          have hnl : n ≤ us.length := by have := Int.emod_lt_of_pos q3 (show (0 : Int) < (us.length : Int) + 1 by omega); omega
          refine ⟨_, rfl, pp, _, 3, .int q3, rfl, rfl, sql lp6.1, g3, .inl ⟨_, rfl, _, rfl, py, us, rfl, .inl (sql ly6.1), _, _, rfl, rfl, _, _, rfl, rfl, (by show (0 : Int) < _; omega), ?_⟩⟩
          dsimp only
          rw [hn]
          exact ⟨n, by omega, fun z => absurd (V.int.inj hx) z, rfl, rfl⟩
        · rintro σ _ ⟨n, hnl, hn4, rfl, rfl⟩
          refine ⟨_, rfl, _, rfl, _, rfl, pk, py, xs, us, D, ts, n, rfl, ek6.1, sql ly6.1, hD6, hu6, hok5, hokR5, hK5.l, by omega, fun p q' r ys us' G7 s7 epp eq' hq' hD7 er7 hU7 hUo7 hl7 hul7 => ?_⟩
          have lp7 := lp6.same s7
          have hB := runS_B (B := 2 + 3 * M') (ts.take n) D [] (by omega) (fun u hu => by cases hu) (fun k sc hk => by
            have hi : ¬ (2 + 3 * M' ≤ k ∧ 1 < k) := hin5 (.wr k sc) (List.mem_of_mem_take hk)
            omega)
          refine ⟨_, rfl, p, _, 0, .ref q', rfl, rfl, sqt epp, atI_nat (j := 0) rfl, _, rfl, p, _, 1, .ref r, rfl, rfl, sqt epp, atI_nat (j := 1) rfl, _, rfl, 18, rfl, pp, _, rfl, sql lp7.1, fun ps hps => ?_⟩
          have ecut : cutV (part.map V.int) (some 18) none = (part.drop 18).map V.int := by
            have := cutn0 (part.map V.int) 18
            rw [← List.map_drop] at this
            exact this
          rw [ecut]
          have s8 := same_upd (o := .lst ((part.drop 18).map V.int)) hps
          have es8 : (upd G7 ps (.lst ((part.drop 18).map V.int))) ps = some (.lst ((part.drop 18).map V.int)) := upd_same
          generalize upd G7 ps (.lst ((part.drop 18).map V.int)) = G8 at s8 es8
          have hdl : (part.drop 18).length = 5 := by rw [List.length_drop]; omega
          refine ⟨q', r, ps, ys, us', part.drop 18, (runS D [] (ts.take n)).1, (runS D [] (ts.take n)).2, rfl, s8 _ _ eq', s8 _ _ er7, hD7.same s8, hU7.same s8, sql es8, drawn_drop 18 hcd, by omega, by omega, hUo7, hl7, hul7, fun pf zs D' G9 s9 epf hpf hD9 hTo hDl9 hDB => ?_⟩
          have hDl' := hDB (2 + 3 * M') hB.1 hB.2
          have s79 := s7.trans (s8.trans s9)
          have hW9 := hW6.same s79
          obtain ⟨_, hlj7, -⟩ := (hW6.same (s7.trans s8)).jj.rl
          have nq : q' ≠ lj' := by
            obtain ⟨_, hlj6, -⟩ := hW6.jj.rl
            rcases hq' with h | h
            · rw [h]; exact ek.2
            · exact fun z => by rw [z, hlj6] at h; cases h
          have nf : pf ≠ lj' := by
            rcases hpf with h | h
            · rw [h]; exact nq
            · exact fun z => by rw [z, hlj7] at h; cases h
          have lp9 := lp6.same s79
          refine ⟨_, rfl, pp, _, 0, .int q0, rfl, rfl, sql lp9.1, g0, _, _, rfl, rfl, (by show (0 : Int) < _; decide), rfl, _, rfl, ifd (fun hx => ?_) (fun hx => ?_)⟩
          · obtain ⟨hx', gx, sx, bx, hDIx, hrx, hxl, hgx, hsx, hxM, hsM⟩ := hF5 n D' hnl hTo
            refine ⟨_, rfl, _, _, rfl, rfl, ?_⟩
            have eb1 : (boot : Int) + 1 = ((boot + 1 : Nat) : Int) := by omega
            dsimp only
            rw [eb1]
            refine ⟨_, rfl, _, rfl, fun x dx2 hx2 hdx2 hne2 => mk_j rfl epf hD9 hDIx (by omega) hx2 hdx2 hne2 (fun lj3 G10 hlj3 s10 hJ3 => ⟨rfl, ?_⟩)⟩
            exact ⟨hx', D', boot + 1, gx, sx, bx, M', pf, x, lj3, _, _, _, _, _, _, _, rfl, ⟨hW9.d.new s10 hlj3, hJ3, hrx⟩, ⟨⟨zs, ⟨s10 _ _ epf, fun z => by rw [z, hlj3] at epf; cases epf⟩, hD9.same s10⟩, hDl9⟩, hDIx, hxl, by omega, hgx, hsx, hxM, hsM, hDl'⟩
          · have hnt : n = ts.length := hn4 fun z => hx (congrArg V.int z)
            rw [hnt, List.take_length, hrun2] at hTo
            exact ⟨hist', D', boot, g', st', hb', M', pf, pj, lj', _, _, _, _, _, _, _, rfl, hW9, ⟨⟨zs, ⟨epf, nf⟩, hD9⟩, hDl9⟩, hDI5.congr (torn_nil hTo), hhl', by omega, hgt', hst', hM1', hM2', hDl'⟩
    · rintro σ G ⟨hist, D, boot, g, st, hb, M, pk, pj, lj, x6, x7, x8, x9, x10, x11, x12, rfl, hW, hK, hDI, hhl, hbt, hgt, hst, hM1, hM2, hM3⟩
      obtain ⟨xs, ek, hD⟩ := hK.k
      have hxl := hD.l
      refine ⟨_, rfl, pk, xs, rfl, .inl (sql ek.1), _, rfl, _, _, rfl, rfl, .inl ⟨by decide, by decide⟩, _, _, rfl, rfl, _, _, rfl, rfl, ?_⟩
      dsimp only
      rw [decide_eq_true (by omega)]
      exact q _
end
theorem all_mk {l : PySem.W.OpenLaw} {w : World} {K : PySem.W.Frag} {h : Heap} {mg : Str → Option Value} {fa : Addr} (X : K.In h) (G : h.Ns mainGlobals mg) (hfa : mg "law" = some (.ref fa))
    {e_MajordomoError : Addr} {e_CodecError : Addr} {e_Truncated : Addr} {e_Malformed : Addr} {e_Damaged : Addr} {e_NotAValue : Addr} {C_Journal : Addr} {f_has_plain_characters : Addr} {od_has_plain_characters an_has_plain_characters : Option Addr} {sl_has_plain_characters : Array (Option Value)} {oc_has_plain_characters kV_has_plain_characters dc_has_plain_characters pm_has_plain_characters cd_has_plain_characters ct_has_plain_characters : Value} {f_put_number : Addr} {od_put_number an_put_number : Option Addr} {sl_put_number : Array (Option Value)} {oc_put_number kV_put_number dc_put_number pm_put_number cd_put_number ct_put_number : Value} {f_take_number : Addr} {od_take_number an_take_number : Option Addr} {sl_take_number : Array (Option Value)} {oc_take_number kV_take_number dc_take_number pm_take_number cd_take_number ct_take_number : Value} {f_is_value : Addr} {od_is_value an_is_value : Option Addr} {sl_is_value : Array (Option Value)} {oc_is_value kV_is_value dc_is_value pm_is_value cd_is_value ct_is_value : Value} {f__is_value_within : Addr} {od__is_value_within an__is_value_within : Option Addr} {sl__is_value_within : Array (Option Value)} {oc__is_value_within kV__is_value_within dc__is_value_within pm__is_value_within cd__is_value_within ct__is_value_within : Value} {f_pack : Addr} {od_pack an_pack : Option Addr} {sl_pack : Array (Option Value)} {oc_pack kV_pack dc_pack pm_pack cd_pack ct_pack : Value} {f__packed : Addr} {od__packed an__packed : Option Addr} {sl__packed : Array (Option Value)} {oc__packed kV__packed dc__packed pm__packed cd__packed ct__packed : Value} {f_unpack : Addr} {od_unpack an_unpack : Option Addr} {sl_unpack : Array (Option Value)} {oc_unpack kV_unpack dc_unpack pm_unpack cd_unpack ct_unpack : Value} {f__take_value : Addr} {od__take_value an__take_value : Option Addr} {sl__take_value : Array (Option Value)} {oc__take_value kV__take_value dc__take_value pm__take_value cd__take_value ct__take_value : Value} {f__checked_integer : Addr} {od__checked_integer an__checked_integer : Option Addr} {sl__checked_integer : Array (Option Value)} {oc__checked_integer kV__checked_integer dc__checked_integer pm__checked_integer cd__checked_integer ct__checked_integer : Value} {f__take_text : Addr} {od__take_text an__take_text : Option Addr} {sl__take_text : Array (Option Value)} {oc__take_text kV__take_text dc__take_text pm__take_text cd__take_text ct__take_text : Value} {f__take_members : Addr} {od__take_members an__take_members : Option Addr} {sl__take_members : Array (Option Value)} {oc__take_members kV__take_members dc__take_members pm__take_members cd__take_members ct__take_members : Value} {f_checksum : Addr} {od_checksum an_checksum : Option Addr} {sl_checksum : Array (Option Value)} {oc_checksum kV_checksum dc_checksum pm_checksum cd_checksum ct_checksum : Value} {dT_checksum : Addr} {do_checksum : Option Addr} {dc2_checksum : Value} {dn_checksum : Nat} {ds_checksum : Array (Option Value)} {da_checksum_0 : Addr} {tod_checksum_0 : Option Addr} {tn_checksum_0 : Nat} {ts_checksum_0 : Array (Option Value)} {tv_checksum_0 : List Value} {f_check_bytes : Addr} {od_check_bytes an_check_bytes : Option Addr} {sl_check_bytes : Array (Option Value)} {oc_check_bytes kV_check_bytes dc_check_bytes pm_check_bytes cd_check_bytes ct_check_bytes : Value} {f_make_sector : Addr} {od_make_sector an_make_sector : Option Addr} {sl_make_sector : Array (Option Value)} {oc_make_sector kV_make_sector dc_make_sector pm_make_sector cd_make_sector ct_make_sector : Value} {f_read_sector : Addr} {od_read_sector an_read_sector : Option Addr} {sl_read_sector : Array (Option Value)} {oc_read_sector kV_read_sector dc_read_sector pm_read_sector cd_read_sector ct_read_sector : Value} {f_parts_needed : Addr} {od_parts_needed an_parts_needed : Option Addr} {sl_parts_needed : Array (Option Value)} {oc_parts_needed kV_parts_needed dc_parts_needed pm_parts_needed cd_parts_needed ct_parts_needed : Value} {f__piece_count : Addr} {od__piece_count an__piece_count : Option Addr} {sl__piece_count : Array (Option Value)} {oc__piece_count kV__piece_count dc__piece_count pm__piece_count cd__piece_count ct__piece_count : Value} {f__sector_at : Addr} {od__sector_at an__sector_at : Option Addr} {sl__sector_at : Array (Option Value)} {oc__sector_at kV__sector_at dc__sector_at pm__sector_at cd__sector_at ct__sector_at : Value} {f__newest_head : Addr} {od__newest_head an__newest_head : Option Addr} {sl__newest_head : Array (Option Value)} {oc__newest_head kV__newest_head dc__newest_head pm__newest_head cd__newest_head ct__newest_head : Value} {f__read_part : Addr} {od__read_part an__read_part : Option Addr} {sl__read_part : Array (Option Value)} {oc__read_part kV__read_part dc__read_part pm__read_part cd__read_part ct__read_part : Value} {f__read_record : Addr} {od__read_record an__read_record : Option Addr} {sl__read_record : Array (Option Value)} {oc__read_record kV__read_record dc__read_record pm__read_record cd__read_record ct__read_record : Value} {f__part_sector : Addr} {od__part_sector an__part_sector : Option Addr} {sl__part_sector : Array (Option Value)} {oc__part_sector kV__part_sector dc__part_sector pm__part_sector cd__part_sector ct__part_sector : Value} {f__part_writes : Addr} {od__part_writes an__part_writes : Option Addr} {sl__part_writes : Array (Option Value)} {oc__part_writes kV__part_writes dc__part_writes pm__part_writes cd__part_writes ct__part_writes : Value} {f_Journal___init__ : Addr} {od_Journal___init__ an_Journal___init__ : Option Addr} {sl_Journal___init__ : Array (Option Value)} {oc_Journal___init__ kV_Journal___init__ dc_Journal___init__ pm_Journal___init__ cd_Journal___init__ ct_Journal___init__ : Value} {f_Journal__read_records : Addr} {od_Journal__read_records an_Journal__read_records : Option Addr} {sl_Journal__read_records : Array (Option Value)} {oc_Journal__read_records kV_Journal__read_records dc_Journal__read_records pm_Journal__read_records cd_Journal__read_records ct_Journal__read_records : Value} {f_Journal_records : Addr} {od_Journal_records an_Journal_records : Option Addr} {sl_Journal_records : Array (Option Value)} {oc_Journal_records kV_Journal_records dc_Journal_records pm_Journal_records cd_Journal_records ct_Journal_records : Value} {f_Journal_append : Addr} {od_Journal_append an_Journal_append : Option Addr} {sl_Journal_append : Array (Option Value)} {oc_Journal_append kV_Journal_append dc_Journal_append pm_Journal_append cd_Journal_append ct_Journal_append : Value} {f_Journal_rewrite : Addr} {od_Journal_rewrite an_Journal_rewrite : Option Addr} {sl_Journal_rewrite : Array (Option Value)} {oc_Journal_rewrite kV_Journal_rewrite dc_Journal_rewrite pm_Journal_rewrite cd_Journal_rewrite ct_Journal_rewrite : Value} {f__law_is_integer : Addr} {od__law_is_integer an__law_is_integer : Option Addr} {sl__law_is_integer : Array (Option Value)} {oc__law_is_integer kV__law_is_integer dc__law_is_integer pm__law_is_integer cd__law_is_integer ct__law_is_integer : Value} {f__law_draws : Addr} {od__law_draws an__law_draws : Option Addr} {sl__law_draws : Array (Option Value)} {oc__law_draws kV__law_draws dc__law_draws pm__law_draws cd__law_draws ct__law_draws : Value} {f__law_record : Addr} {od__law_record an__law_record : Option Addr} {sl__law_record : Array (Option Value)} {oc__law_record kV__law_record dc__law_record pm__law_record cd__law_record ct__law_record : Value} {f__law_write : Addr} {od__law_write an__law_write : Option Addr} {sl__law_write : Array (Option Value)} {oc__law_write kV__law_write dc__law_write pm__law_write cd__law_write ct__law_write : Value} {f__law_step : Addr} {od__law_step an__law_step : Option Addr} {sl__law_step : Array (Option Value)} {oc__law_step kV__law_step dc__law_step pm__law_step cd__law_step ct__law_step : Value} {f__law_fall : Addr} {od__law_fall an__law_fall : Option Addr} {sl__law_fall : Array (Option Value)} {oc__law_fall kV__law_fall dc__law_fall pm__law_fall cd__law_fall ct__law_fall : Value} {f__law_run_steps : Addr} {od__law_run_steps an__law_run_steps : Option Addr} {sl__law_run_steps : Array (Option Value)} {oc__law_run_steps kV__law_run_steps dc__law_run_steps pm__law_run_steps cd__law_run_steps ct__law_run_steps : Value} {f__law_room : Addr} {od__law_room an__law_room : Option Addr} {sl__law_room : Array (Option Value)} {oc__law_room kV__law_room dc__law_room pm__law_room cd__law_room ct__law_room : Value} {f__law_inside : Addr} {od__law_inside an__law_inside : Option Addr} {sl__law_inside : Array (Option Value)} {oc__law_inside kV__law_inside dc__law_inside pm__law_inside cd__law_inside ct__law_inside : Value} {f_law : Addr} {od_law an_law : Option Addr} {sl_law : Array (Option Value)} {oc_law kV_law dc_law pm_law cd_law ct_law : Value} {t_SPACE : Tok} {t_PERCENT : Tok} {t_TILDE : Tok} {t_MOST_BYTES : Tok} {t_MOST_BITS : Tok} {t_MOST_LENGTH : Tok} {t_MOST_DEPTH : Tok} {t_FALSE_TAG : Tok} {t_TRUE_TAG : Tok} {t_NATURAL_TAG : Tok} {t_NEGATIVE_TAG : Tok} {t_TEXT_TAG : Tok} {t_TUPLE_TAG : Tok} {ca_CONSTANTS : Addr} {cd0_CONSTANTS : Option Addr} {cn_CONSTANTS : Nat} {cs_CONSTANTS : Array (Option Value)} {cv_CONSTANTS : List Value} {t_CHARACTERS : Tok} {t_PERCENT_BYTE : Tok} {t_MODULUS : Tok} {t_PAYLOAD : Tok} {ca_BLANK : Addr} {cd0_BLANK : Option Addr} {cn_BLANK : Nat} {cs_BLANK : Array (Option Value)} {cv_BLANK : List Value} {t_CHECK_BYTES : Tok} {t_MOST_KIND : Tok} {t_HEAD_KIND : Tok} {t_PART_KIND : Tok} {t_PIECE : Tok} {t_FIRST_START : Tok}
    (g_MajordomoError : PySem.W.nsIn K mainGlobals "MajordomoError" = some (some (.ref e_MajordomoError)))
    (x_MajordomoError : PySem.W.excIn K e_MajordomoError [.type "ValueError", .type "Exception", .type "BaseException", .type "object"] "ValueError.__new__" = true)
    (k_MajordomoError : PySem.W.keepIn K (.ref e_MajordomoError) = true)
    (s_MajordomoError : PySem.W.subIn K (.ref e_MajordomoError) (.type "BaseException") = some true)
    (t_MajordomoError : PySem.W.typeIn K (.ref e_MajordomoError) = some (.type "type"))
    (g_CodecError : PySem.W.nsIn K mainGlobals "CodecError" = some (some (.ref e_CodecError)))
    (x_CodecError : PySem.W.excIn K e_CodecError [.type "ValueError", .type "Exception", .type "BaseException", .type "object"] "ValueError.__new__" = true)
    (k_CodecError : PySem.W.keepIn K (.ref e_CodecError) = true)
    (s_CodecError : PySem.W.subIn K (.ref e_CodecError) (.type "BaseException") = some true)
    (t_CodecError : PySem.W.typeIn K (.ref e_CodecError) = some (.type "type"))
    (g_Truncated : PySem.W.nsIn K mainGlobals "Truncated" = some (some (.ref e_Truncated)))
    (x_Truncated : PySem.W.excIn K e_Truncated [.type "ValueError", .type "Exception", .type "BaseException", .type "object"] "ValueError.__new__" = true)
    (k_Truncated : PySem.W.keepIn K (.ref e_Truncated) = true)
    (s_Truncated : PySem.W.subIn K (.ref e_Truncated) (.type "BaseException") = some true)
    (t_Truncated : PySem.W.typeIn K (.ref e_Truncated) = some (.type "type"))
    (g_Malformed : PySem.W.nsIn K mainGlobals "Malformed" = some (some (.ref e_Malformed)))
    (x_Malformed : PySem.W.excIn K e_Malformed [.type "ValueError", .type "Exception", .type "BaseException", .type "object"] "ValueError.__new__" = true)
    (k_Malformed : PySem.W.keepIn K (.ref e_Malformed) = true)
    (s_Malformed : PySem.W.subIn K (.ref e_Malformed) (.type "BaseException") = some true)
    (t_Malformed : PySem.W.typeIn K (.ref e_Malformed) = some (.type "type"))
    (g_Damaged : PySem.W.nsIn K mainGlobals "Damaged" = some (some (.ref e_Damaged)))
    (x_Damaged : PySem.W.excIn K e_Damaged [.type "ValueError", .type "Exception", .type "BaseException", .type "object"] "ValueError.__new__" = true)
    (k_Damaged : PySem.W.keepIn K (.ref e_Damaged) = true)
    (s_Damaged : PySem.W.subIn K (.ref e_Damaged) (.type "BaseException") = some true)
    (t_Damaged : PySem.W.typeIn K (.ref e_Damaged) = some (.type "type"))
    (g_NotAValue : PySem.W.nsIn K mainGlobals "NotAValue" = some (some (.ref e_NotAValue)))
    (x_NotAValue : PySem.W.excIn K e_NotAValue [.type "ValueError", .type "Exception", .type "BaseException", .type "object"] "ValueError.__new__" = true)
    (k_NotAValue : PySem.W.keepIn K (.ref e_NotAValue) = true)
    (s_NotAValue : PySem.W.subIn K (.ref e_NotAValue) (.type "BaseException") = some true)
    (t_NotAValue : PySem.W.typeIn K (.ref e_NotAValue) = some (.type "type"))
    (g_has_plain_characters : PySem.W.nsIn K mainGlobals "has_plain_characters" = some (some (.ref f_has_plain_characters)))
    (l_has_plain_characters : K.lookup f_has_plain_characters = some ⟨oc_has_plain_characters, od_has_plain_characters, .func (PySem.W.fnOf "has_plain_characters" "has_plain_characters" (defArgs s_has_plain_characters) (defBody s_has_plain_characters) (defScope s_has_plain_characters) .none kV_has_plain_characters dc_has_plain_characters pm_has_plain_characters an_has_plain_characters cd_has_plain_characters ct_has_plain_characters), sl_has_plain_characters⟩)
    (c_has_plain_characters : PySem.W.codeIn K cd_has_plain_characters "has_plain_characters" = true)
    (k_has_plain_characters : PySem.W.keepIn K (.ref f_has_plain_characters) = true)
    (g_put_number : PySem.W.nsIn K mainGlobals "put_number" = some (some (.ref f_put_number)))
    (l_put_number : K.lookup f_put_number = some ⟨oc_put_number, od_put_number, .func (PySem.W.fnOf "put_number" "put_number" (defArgs s_put_number) (defBody s_put_number) (defScope s_put_number) .none kV_put_number dc_put_number pm_put_number an_put_number cd_put_number ct_put_number), sl_put_number⟩)
    (c_put_number : PySem.W.codeIn K cd_put_number "put_number" = true)
    (k_put_number : PySem.W.keepIn K (.ref f_put_number) = true)
    (g_take_number : PySem.W.nsIn K mainGlobals "take_number" = some (some (.ref f_take_number)))
    (l_take_number : K.lookup f_take_number = some ⟨oc_take_number, od_take_number, .func (PySem.W.fnOf "take_number" "take_number" (defArgs s_take_number) (defBody s_take_number) (defScope s_take_number) .none kV_take_number dc_take_number pm_take_number an_take_number cd_take_number ct_take_number), sl_take_number⟩)
    (c_take_number : PySem.W.codeIn K cd_take_number "take_number" = true)
    (k_take_number : PySem.W.keepIn K (.ref f_take_number) = true)
    (g_is_value : PySem.W.nsIn K mainGlobals "is_value" = some (some (.ref f_is_value)))
    (l_is_value : K.lookup f_is_value = some ⟨oc_is_value, od_is_value, .func (PySem.W.fnOf "is_value" "is_value" (defArgs s_is_value) (defBody s_is_value) (defScope s_is_value) .none kV_is_value dc_is_value pm_is_value an_is_value cd_is_value ct_is_value), sl_is_value⟩)
    (c_is_value : PySem.W.codeIn K cd_is_value "is_value" = true)
    (k_is_value : PySem.W.keepIn K (.ref f_is_value) = true)
    (g__is_value_within : PySem.W.nsIn K mainGlobals "_is_value_within" = some (some (.ref f__is_value_within)))
    (l__is_value_within : K.lookup f__is_value_within = some ⟨oc__is_value_within, od__is_value_within, .func (PySem.W.fnOf "_is_value_within" "_is_value_within" (defArgs s__is_value_within) (defBody s__is_value_within) (defScope s__is_value_within) .none kV__is_value_within dc__is_value_within pm__is_value_within an__is_value_within cd__is_value_within ct__is_value_within), sl__is_value_within⟩)
    (c__is_value_within : PySem.W.codeIn K cd__is_value_within "_is_value_within" = true)
    (k__is_value_within : PySem.W.keepIn K (.ref f__is_value_within) = true)
    (g_pack : PySem.W.nsIn K mainGlobals "pack" = some (some (.ref f_pack)))
    (l_pack : K.lookup f_pack = some ⟨oc_pack, od_pack, .func (PySem.W.fnOf "pack" "pack" (defArgs s_pack) (defBody s_pack) (defScope s_pack) .none kV_pack dc_pack pm_pack an_pack cd_pack ct_pack), sl_pack⟩)
    (c_pack : PySem.W.codeIn K cd_pack "pack" = true)
    (k_pack : PySem.W.keepIn K (.ref f_pack) = true)
    (g__packed : PySem.W.nsIn K mainGlobals "_packed" = some (some (.ref f__packed)))
    (l__packed : K.lookup f__packed = some ⟨oc__packed, od__packed, .func (PySem.W.fnOf "_packed" "_packed" (defArgs s__packed) (defBody s__packed) (defScope s__packed) .none kV__packed dc__packed pm__packed an__packed cd__packed ct__packed), sl__packed⟩)
    (c__packed : PySem.W.codeIn K cd__packed "_packed" = true)
    (k__packed : PySem.W.keepIn K (.ref f__packed) = true)
    (g_unpack : PySem.W.nsIn K mainGlobals "unpack" = some (some (.ref f_unpack)))
    (l_unpack : K.lookup f_unpack = some ⟨oc_unpack, od_unpack, .func (PySem.W.fnOf "unpack" "unpack" (defArgs s_unpack) (defBody s_unpack) (defScope s_unpack) .none kV_unpack dc_unpack pm_unpack an_unpack cd_unpack ct_unpack), sl_unpack⟩)
    (c_unpack : PySem.W.codeIn K cd_unpack "unpack" = true)
    (k_unpack : PySem.W.keepIn K (.ref f_unpack) = true)
    (g__take_value : PySem.W.nsIn K mainGlobals "_take_value" = some (some (.ref f__take_value)))
    (l__take_value : K.lookup f__take_value = some ⟨oc__take_value, od__take_value, .func (PySem.W.fnOf "_take_value" "_take_value" (defArgs s__take_value) (defBody s__take_value) (defScope s__take_value) .none kV__take_value dc__take_value pm__take_value an__take_value cd__take_value ct__take_value), sl__take_value⟩)
    (c__take_value : PySem.W.codeIn K cd__take_value "_take_value" = true)
    (k__take_value : PySem.W.keepIn K (.ref f__take_value) = true)
    (g__checked_integer : PySem.W.nsIn K mainGlobals "_checked_integer" = some (some (.ref f__checked_integer)))
    (l__checked_integer : K.lookup f__checked_integer = some ⟨oc__checked_integer, od__checked_integer, .func (PySem.W.fnOf "_checked_integer" "_checked_integer" (defArgs s__checked_integer) (defBody s__checked_integer) (defScope s__checked_integer) .none kV__checked_integer dc__checked_integer pm__checked_integer an__checked_integer cd__checked_integer ct__checked_integer), sl__checked_integer⟩)
    (c__checked_integer : PySem.W.codeIn K cd__checked_integer "_checked_integer" = true)
    (k__checked_integer : PySem.W.keepIn K (.ref f__checked_integer) = true)
    (g__take_text : PySem.W.nsIn K mainGlobals "_take_text" = some (some (.ref f__take_text)))
    (l__take_text : K.lookup f__take_text = some ⟨oc__take_text, od__take_text, .func (PySem.W.fnOf "_take_text" "_take_text" (defArgs s__take_text) (defBody s__take_text) (defScope s__take_text) .none kV__take_text dc__take_text pm__take_text an__take_text cd__take_text ct__take_text), sl__take_text⟩)
    (c__take_text : PySem.W.codeIn K cd__take_text "_take_text" = true)
    (k__take_text : PySem.W.keepIn K (.ref f__take_text) = true)
    (g__take_members : PySem.W.nsIn K mainGlobals "_take_members" = some (some (.ref f__take_members)))
    (l__take_members : K.lookup f__take_members = some ⟨oc__take_members, od__take_members, .func (PySem.W.fnOf "_take_members" "_take_members" (defArgs s__take_members) (defBody s__take_members) (defScope s__take_members) .none kV__take_members dc__take_members pm__take_members an__take_members cd__take_members ct__take_members), sl__take_members⟩)
    (c__take_members : PySem.W.codeIn K cd__take_members "_take_members" = true)
    (k__take_members : PySem.W.keepIn K (.ref f__take_members) = true)
    (g_checksum : PySem.W.nsIn K mainGlobals "checksum" = some (some (.ref f_checksum)))
    (l_checksum : K.lookup f_checksum = some ⟨oc_checksum, od_checksum, .func (PySem.W.fnOf "checksum" "checksum" (defArgs s_checksum) (defBody s_checksum) (defScope s_checksum) (.ref dT_checksum) kV_checksum dc_checksum pm_checksum an_checksum cd_checksum ct_checksum), sl_checksum⟩)
    (c_checksum : PySem.W.codeIn K cd_checksum "checksum" = true)
    (k_checksum : PySem.W.keepIn K (.ref f_checksum) = true)
    (lT_checksum : K.lookup dT_checksum = some ⟨dc2_checksum, do_checksum, .seq (([.ref da_checksum_0] : List Value).toArray) dn_checksum, ds_checksum⟩)
    (lq_checksum_0 : K.lookup da_checksum_0 = some ⟨.type "tuple", tod_checksum_0, .seq tv_checksum_0.toArray tn_checksum_0, ts_checksum_0⟩)
    (v_checksum_0 : Vals [(.int 1), (.int 1)] tv_checksum_0)
    (g_check_bytes : PySem.W.nsIn K mainGlobals "check_bytes" = some (some (.ref f_check_bytes)))
    (l_check_bytes : K.lookup f_check_bytes = some ⟨oc_check_bytes, od_check_bytes, .func (PySem.W.fnOf "check_bytes" "check_bytes" (defArgs s_check_bytes) (defBody s_check_bytes) (defScope s_check_bytes) .none kV_check_bytes dc_check_bytes pm_check_bytes an_check_bytes cd_check_bytes ct_check_bytes), sl_check_bytes⟩)
    (c_check_bytes : PySem.W.codeIn K cd_check_bytes "check_bytes" = true)
    (k_check_bytes : PySem.W.keepIn K (.ref f_check_bytes) = true)
    (g_make_sector : PySem.W.nsIn K mainGlobals "make_sector" = some (some (.ref f_make_sector)))
    (l_make_sector : K.lookup f_make_sector = some ⟨oc_make_sector, od_make_sector, .func (PySem.W.fnOf "make_sector" "make_sector" (defArgs s_make_sector) (defBody s_make_sector) (defScope s_make_sector) .none kV_make_sector dc_make_sector pm_make_sector an_make_sector cd_make_sector ct_make_sector), sl_make_sector⟩)
    (c_make_sector : PySem.W.codeIn K cd_make_sector "make_sector" = true)
    (k_make_sector : PySem.W.keepIn K (.ref f_make_sector) = true)
    (g_read_sector : PySem.W.nsIn K mainGlobals "read_sector" = some (some (.ref f_read_sector)))
    (l_read_sector : K.lookup f_read_sector = some ⟨oc_read_sector, od_read_sector, .func (PySem.W.fnOf "read_sector" "read_sector" (defArgs s_read_sector) (defBody s_read_sector) (defScope s_read_sector) .none kV_read_sector dc_read_sector pm_read_sector an_read_sector cd_read_sector ct_read_sector), sl_read_sector⟩)
    (c_read_sector : PySem.W.codeIn K cd_read_sector "read_sector" = true)
    (k_read_sector : PySem.W.keepIn K (.ref f_read_sector) = true)
    (g_parts_needed : PySem.W.nsIn K mainGlobals "parts_needed" = some (some (.ref f_parts_needed)))
    (l_parts_needed : K.lookup f_parts_needed = some ⟨oc_parts_needed, od_parts_needed, .func (PySem.W.fnOf "parts_needed" "parts_needed" (defArgs s_parts_needed) (defBody s_parts_needed) (defScope s_parts_needed) .none kV_parts_needed dc_parts_needed pm_parts_needed an_parts_needed cd_parts_needed ct_parts_needed), sl_parts_needed⟩)
    (c_parts_needed : PySem.W.codeIn K cd_parts_needed "parts_needed" = true)
    (k_parts_needed : PySem.W.keepIn K (.ref f_parts_needed) = true)
    (g__piece_count : PySem.W.nsIn K mainGlobals "_piece_count" = some (some (.ref f__piece_count)))
    (l__piece_count : K.lookup f__piece_count = some ⟨oc__piece_count, od__piece_count, .func (PySem.W.fnOf "_piece_count" "_piece_count" (defArgs s__piece_count) (defBody s__piece_count) (defScope s__piece_count) .none kV__piece_count dc__piece_count pm__piece_count an__piece_count cd__piece_count ct__piece_count), sl__piece_count⟩)
    (c__piece_count : PySem.W.codeIn K cd__piece_count "_piece_count" = true)
    (k__piece_count : PySem.W.keepIn K (.ref f__piece_count) = true)
    (g__sector_at : PySem.W.nsIn K mainGlobals "_sector_at" = some (some (.ref f__sector_at)))
    (l__sector_at : K.lookup f__sector_at = some ⟨oc__sector_at, od__sector_at, .func (PySem.W.fnOf "_sector_at" "_sector_at" (defArgs s__sector_at) (defBody s__sector_at) (defScope s__sector_at) .none kV__sector_at dc__sector_at pm__sector_at an__sector_at cd__sector_at ct__sector_at), sl__sector_at⟩)
    (c__sector_at : PySem.W.codeIn K cd__sector_at "_sector_at" = true)
    (k__sector_at : PySem.W.keepIn K (.ref f__sector_at) = true)
    (g__newest_head : PySem.W.nsIn K mainGlobals "_newest_head" = some (some (.ref f__newest_head)))
    (l__newest_head : K.lookup f__newest_head = some ⟨oc__newest_head, od__newest_head, .func (PySem.W.fnOf "_newest_head" "_newest_head" (defArgs s__newest_head) (defBody s__newest_head) (defScope s__newest_head) .none kV__newest_head dc__newest_head pm__newest_head an__newest_head cd__newest_head ct__newest_head), sl__newest_head⟩)
    (c__newest_head : PySem.W.codeIn K cd__newest_head "_newest_head" = true)
    (k__newest_head : PySem.W.keepIn K (.ref f__newest_head) = true)
    (g__read_part : PySem.W.nsIn K mainGlobals "_read_part" = some (some (.ref f__read_part)))
    (l__read_part : K.lookup f__read_part = some ⟨oc__read_part, od__read_part, .func (PySem.W.fnOf "_read_part" "_read_part" (defArgs s__read_part) (defBody s__read_part) (defScope s__read_part) .none kV__read_part dc__read_part pm__read_part an__read_part cd__read_part ct__read_part), sl__read_part⟩)
    (c__read_part : PySem.W.codeIn K cd__read_part "_read_part" = true)
    (k__read_part : PySem.W.keepIn K (.ref f__read_part) = true)
    (g__read_record : PySem.W.nsIn K mainGlobals "_read_record" = some (some (.ref f__read_record)))
    (l__read_record : K.lookup f__read_record = some ⟨oc__read_record, od__read_record, .func (PySem.W.fnOf "_read_record" "_read_record" (defArgs s__read_record) (defBody s__read_record) (defScope s__read_record) .none kV__read_record dc__read_record pm__read_record an__read_record cd__read_record ct__read_record), sl__read_record⟩)
    (c__read_record : PySem.W.codeIn K cd__read_record "_read_record" = true)
    (k__read_record : PySem.W.keepIn K (.ref f__read_record) = true)
    (g__part_sector : PySem.W.nsIn K mainGlobals "_part_sector" = some (some (.ref f__part_sector)))
    (l__part_sector : K.lookup f__part_sector = some ⟨oc__part_sector, od__part_sector, .func (PySem.W.fnOf "_part_sector" "_part_sector" (defArgs s__part_sector) (defBody s__part_sector) (defScope s__part_sector) .none kV__part_sector dc__part_sector pm__part_sector an__part_sector cd__part_sector ct__part_sector), sl__part_sector⟩)
    (c__part_sector : PySem.W.codeIn K cd__part_sector "_part_sector" = true)
    (k__part_sector : PySem.W.keepIn K (.ref f__part_sector) = true)
    (g__part_writes : PySem.W.nsIn K mainGlobals "_part_writes" = some (some (.ref f__part_writes)))
    (l__part_writes : K.lookup f__part_writes = some ⟨oc__part_writes, od__part_writes, .func (PySem.W.fnOf "_part_writes" "_part_writes" (defArgs s__part_writes) (defBody s__part_writes) (defScope s__part_writes) .none kV__part_writes dc__part_writes pm__part_writes an__part_writes cd__part_writes ct__part_writes), sl__part_writes⟩)
    (c__part_writes : PySem.W.codeIn K cd__part_writes "_part_writes" = true)
    (k__part_writes : PySem.W.keepIn K (.ref f__part_writes) = true)
    (gc_Journal : PySem.W.nsIn K mainGlobals "Journal" = some (some (.ref C_Journal)))
    (m_Journal___init__ : PySem.W.findIn K (.ref C_Journal) "__init__" = some (some (.ref f_Journal___init__)))
    (i_Journal___init__ : PySem.W.isFn K (.ref f_Journal___init__) = true)
    (l_Journal___init__ : K.lookup f_Journal___init__ = some ⟨oc_Journal___init__, od_Journal___init__, .func (PySem.W.fnOf "__init__" "Journal.__init__" (defArgs s_Journal___init__) (defBody s_Journal___init__) (defScope s_Journal___init__) .none kV_Journal___init__ dc_Journal___init__ pm_Journal___init__ an_Journal___init__ cd_Journal___init__ ct_Journal___init__), sl_Journal___init__⟩)
    (c_Journal___init__ : PySem.W.codeIn K cd_Journal___init__ "Journal.__init__" = true)
    (k_Journal___init__ : PySem.W.keepIn K (.ref f_Journal___init__) = true)
    (m_Journal__read_records : PySem.W.findIn K (.ref C_Journal) "_read_records" = some (some (.ref f_Journal__read_records)))
    (i_Journal__read_records : PySem.W.isFn K (.ref f_Journal__read_records) = true)
    (l_Journal__read_records : K.lookup f_Journal__read_records = some ⟨oc_Journal__read_records, od_Journal__read_records, .func (PySem.W.fnOf "_read_records" "Journal._read_records" (defArgs s_Journal__read_records) (defBody s_Journal__read_records) (defScope s_Journal__read_records) .none kV_Journal__read_records dc_Journal__read_records pm_Journal__read_records an_Journal__read_records cd_Journal__read_records ct_Journal__read_records), sl_Journal__read_records⟩)
    (c_Journal__read_records : PySem.W.codeIn K cd_Journal__read_records "Journal._read_records" = true)
    (k_Journal__read_records : PySem.W.keepIn K (.ref f_Journal__read_records) = true)
    (m_Journal_records : PySem.W.findIn K (.ref C_Journal) "records" = some (some (.ref f_Journal_records)))
    (i_Journal_records : PySem.W.isFn K (.ref f_Journal_records) = true)
    (l_Journal_records : K.lookup f_Journal_records = some ⟨oc_Journal_records, od_Journal_records, .func (PySem.W.fnOf "records" "Journal.records" (defArgs s_Journal_records) (defBody s_Journal_records) (defScope s_Journal_records) .none kV_Journal_records dc_Journal_records pm_Journal_records an_Journal_records cd_Journal_records ct_Journal_records), sl_Journal_records⟩)
    (c_Journal_records : PySem.W.codeIn K cd_Journal_records "Journal.records" = true)
    (k_Journal_records : PySem.W.keepIn K (.ref f_Journal_records) = true)
    (m_Journal_append : PySem.W.findIn K (.ref C_Journal) "append" = some (some (.ref f_Journal_append)))
    (i_Journal_append : PySem.W.isFn K (.ref f_Journal_append) = true)
    (l_Journal_append : K.lookup f_Journal_append = some ⟨oc_Journal_append, od_Journal_append, .func (PySem.W.fnOf "append" "Journal.append" (defArgs s_Journal_append) (defBody s_Journal_append) (defScope s_Journal_append) .none kV_Journal_append dc_Journal_append pm_Journal_append an_Journal_append cd_Journal_append ct_Journal_append), sl_Journal_append⟩)
    (c_Journal_append : PySem.W.codeIn K cd_Journal_append "Journal.append" = true)
    (k_Journal_append : PySem.W.keepIn K (.ref f_Journal_append) = true)
    (m_Journal_rewrite : PySem.W.findIn K (.ref C_Journal) "rewrite" = some (some (.ref f_Journal_rewrite)))
    (i_Journal_rewrite : PySem.W.isFn K (.ref f_Journal_rewrite) = true)
    (l_Journal_rewrite : K.lookup f_Journal_rewrite = some ⟨oc_Journal_rewrite, od_Journal_rewrite, .func (PySem.W.fnOf "rewrite" "Journal.rewrite" (defArgs s_Journal_rewrite) (defBody s_Journal_rewrite) (defScope s_Journal_rewrite) .none kV_Journal_rewrite dc_Journal_rewrite pm_Journal_rewrite an_Journal_rewrite cd_Journal_rewrite ct_Journal_rewrite), sl_Journal_rewrite⟩)
    (c_Journal_rewrite : PySem.W.codeIn K cd_Journal_rewrite "Journal.rewrite" = true)
    (k_Journal_rewrite : PySem.W.keepIn K (.ref f_Journal_rewrite) = true)
    (g__law_is_integer : PySem.W.nsIn K mainGlobals "_law_is_integer" = some (some (.ref f__law_is_integer)))
    (l__law_is_integer : K.lookup f__law_is_integer = some ⟨oc__law_is_integer, od__law_is_integer, .func (PySem.W.fnOf "_law_is_integer" "_law_is_integer" (defArgs s__law_is_integer) (defBody s__law_is_integer) (defScope s__law_is_integer) .none kV__law_is_integer dc__law_is_integer pm__law_is_integer an__law_is_integer cd__law_is_integer ct__law_is_integer), sl__law_is_integer⟩)
    (c__law_is_integer : PySem.W.codeIn K cd__law_is_integer "_law_is_integer" = true)
    (k__law_is_integer : PySem.W.keepIn K (.ref f__law_is_integer) = true)
    (g__law_draws : PySem.W.nsIn K mainGlobals "_law_draws" = some (some (.ref f__law_draws)))
    (l__law_draws : K.lookup f__law_draws = some ⟨oc__law_draws, od__law_draws, .func (PySem.W.fnOf "_law_draws" "_law_draws" (defArgs s__law_draws) (defBody s__law_draws) (defScope s__law_draws) .none kV__law_draws dc__law_draws pm__law_draws an__law_draws cd__law_draws ct__law_draws), sl__law_draws⟩)
    (c__law_draws : PySem.W.codeIn K cd__law_draws "_law_draws" = true)
    (k__law_draws : PySem.W.keepIn K (.ref f__law_draws) = true)
    (g__law_record : PySem.W.nsIn K mainGlobals "_law_record" = some (some (.ref f__law_record)))
    (l__law_record : K.lookup f__law_record = some ⟨oc__law_record, od__law_record, .func (PySem.W.fnOf "_law_record" "_law_record" (defArgs s__law_record) (defBody s__law_record) (defScope s__law_record) .none kV__law_record dc__law_record pm__law_record an__law_record cd__law_record ct__law_record), sl__law_record⟩)
    (c__law_record : PySem.W.codeIn K cd__law_record "_law_record" = true)
    (k__law_record : PySem.W.keepIn K (.ref f__law_record) = true)
    (g__law_write : PySem.W.nsIn K mainGlobals "_law_write" = some (some (.ref f__law_write)))
    (l__law_write : K.lookup f__law_write = some ⟨oc__law_write, od__law_write, .func (PySem.W.fnOf "_law_write" "_law_write" (defArgs s__law_write) (defBody s__law_write) (defScope s__law_write) .none kV__law_write dc__law_write pm__law_write an__law_write cd__law_write ct__law_write), sl__law_write⟩)
    (c__law_write : PySem.W.codeIn K cd__law_write "_law_write" = true)
    (k__law_write : PySem.W.keepIn K (.ref f__law_write) = true)
    (g__law_step : PySem.W.nsIn K mainGlobals "_law_step" = some (some (.ref f__law_step)))
    (l__law_step : K.lookup f__law_step = some ⟨oc__law_step, od__law_step, .func (PySem.W.fnOf "_law_step" "_law_step" (defArgs s__law_step) (defBody s__law_step) (defScope s__law_step) .none kV__law_step dc__law_step pm__law_step an__law_step cd__law_step ct__law_step), sl__law_step⟩)
    (c__law_step : PySem.W.codeIn K cd__law_step "_law_step" = true)
    (k__law_step : PySem.W.keepIn K (.ref f__law_step) = true)
    (g__law_fall : PySem.W.nsIn K mainGlobals "_law_fall" = some (some (.ref f__law_fall)))
    (l__law_fall : K.lookup f__law_fall = some ⟨oc__law_fall, od__law_fall, .func (PySem.W.fnOf "_law_fall" "_law_fall" (defArgs s__law_fall) (defBody s__law_fall) (defScope s__law_fall) .none kV__law_fall dc__law_fall pm__law_fall an__law_fall cd__law_fall ct__law_fall), sl__law_fall⟩)
    (c__law_fall : PySem.W.codeIn K cd__law_fall "_law_fall" = true)
    (k__law_fall : PySem.W.keepIn K (.ref f__law_fall) = true)
    (g__law_run_steps : PySem.W.nsIn K mainGlobals "_law_run_steps" = some (some (.ref f__law_run_steps)))
    (l__law_run_steps : K.lookup f__law_run_steps = some ⟨oc__law_run_steps, od__law_run_steps, .func (PySem.W.fnOf "_law_run_steps" "_law_run_steps" (defArgs s__law_run_steps) (defBody s__law_run_steps) (defScope s__law_run_steps) .none kV__law_run_steps dc__law_run_steps pm__law_run_steps an__law_run_steps cd__law_run_steps ct__law_run_steps), sl__law_run_steps⟩)
    (c__law_run_steps : PySem.W.codeIn K cd__law_run_steps "_law_run_steps" = true)
    (k__law_run_steps : PySem.W.keepIn K (.ref f__law_run_steps) = true)
    (g__law_room : PySem.W.nsIn K mainGlobals "_law_room" = some (some (.ref f__law_room)))
    (l__law_room : K.lookup f__law_room = some ⟨oc__law_room, od__law_room, .func (PySem.W.fnOf "_law_room" "_law_room" (defArgs s__law_room) (defBody s__law_room) (defScope s__law_room) .none kV__law_room dc__law_room pm__law_room an__law_room cd__law_room ct__law_room), sl__law_room⟩)
    (c__law_room : PySem.W.codeIn K cd__law_room "_law_room" = true)
    (k__law_room : PySem.W.keepIn K (.ref f__law_room) = true)
    (g__law_inside : PySem.W.nsIn K mainGlobals "_law_inside" = some (some (.ref f__law_inside)))
    (l__law_inside : K.lookup f__law_inside = some ⟨oc__law_inside, od__law_inside, .func (PySem.W.fnOf "_law_inside" "_law_inside" (defArgs s__law_inside) (defBody s__law_inside) (defScope s__law_inside) .none kV__law_inside dc__law_inside pm__law_inside an__law_inside cd__law_inside ct__law_inside), sl__law_inside⟩)
    (c__law_inside : PySem.W.codeIn K cd__law_inside "_law_inside" = true)
    (k__law_inside : PySem.W.keepIn K (.ref f__law_inside) = true)
    (g_law : PySem.W.nsIn K mainGlobals "law" = some (some (.ref f_law)))
    (l_law : K.lookup f_law = some ⟨oc_law, od_law, .func (PySem.W.fnOf "law" "law" (defArgs s_law) (defBody s_law) (defScope s_law) .none kV_law dc_law pm_law an_law cd_law ct_law), sl_law⟩)
    (c_law : PySem.W.codeIn K cd_law "law" = true)
    (k_law : PySem.W.keepIn K (.ref f_law) = true)
    (pg_Journal : PySem.W.plainGet K C_Journal Str.empty = true)
    (hd_Journal : PySem.W.hasDictIn K C_Journal = true)
    (po_Journal : PySem.W.plainOver K C_Journal = true)
    (sa_Journal : PySem.W.findIn K (.ref C_Journal) "__setattr__" = some (some (.builtin "object.__setattr__")))
    (mk_Journal : PySem.W.makesIn K C_Journal = true)
    (kc_Journal : PySem.W.keepIn K (.ref C_Journal) = true)
    (na_Journal__boot : PySem.W.findIn K (.ref C_Journal) "_boot" = some none)
    (na_Journal__generation : PySem.W.findIn K (.ref C_Journal) "_generation" = some none)
    (na_Journal__start : PySem.W.findIn K (.ref C_Journal) "_start" = some none)
    (na_Journal__used : PySem.W.findIn K (.ref C_Journal) "_used" = some none)
    (na_Journal__records : PySem.W.findIn K (.ref C_Journal) "_records" = some none)
    (c_SPACE : PySem.W.nsIn K mainGlobals "SPACE" = some (some (.int 32 t_SPACE)))
    (c_PERCENT : PySem.W.nsIn K mainGlobals "PERCENT" = some (some (.int 37 t_PERCENT)))
    (c_TILDE : PySem.W.nsIn K mainGlobals "TILDE" = some (some (.int 126 t_TILDE)))
    (c_MOST_BYTES : PySem.W.nsIn K mainGlobals "MOST_BYTES" = some (some (.int 500 t_MOST_BYTES)))
    (c_MOST_BITS : PySem.W.nsIn K mainGlobals "MOST_BITS" = some (some (.int 3000 t_MOST_BITS)))
    (c_MOST_LENGTH : PySem.W.nsIn K mainGlobals "MOST_LENGTH" = some (some (.int 60000 t_MOST_LENGTH)))
    (c_MOST_DEPTH : PySem.W.nsIn K mainGlobals "MOST_DEPTH" = some (some (.int 20 t_MOST_DEPTH)))
    (c_FALSE_TAG : PySem.W.nsIn K mainGlobals "FALSE_TAG" = some (some (.int 1 t_FALSE_TAG)))
    (c_TRUE_TAG : PySem.W.nsIn K mainGlobals "TRUE_TAG" = some (some (.int 2 t_TRUE_TAG)))
    (c_NATURAL_TAG : PySem.W.nsIn K mainGlobals "NATURAL_TAG" = some (some (.int 3 t_NATURAL_TAG)))
    (c_NEGATIVE_TAG : PySem.W.nsIn K mainGlobals "NEGATIVE_TAG" = some (some (.int 4 t_NEGATIVE_TAG)))
    (c_TEXT_TAG : PySem.W.nsIn K mainGlobals "TEXT_TAG" = some (some (.int 5 t_TEXT_TAG)))
    (c_TUPLE_TAG : PySem.W.nsIn K mainGlobals "TUPLE_TAG" = some (some (.int 6 t_TUPLE_TAG)))
    (c_CONSTANTS : PySem.W.nsIn K mainGlobals "CONSTANTS" = some (some (.ref ca_CONSTANTS)))
    (q_CONSTANTS : K.lookup ca_CONSTANTS = some ⟨.type "tuple", cd0_CONSTANTS, .seq cv_CONSTANTS.toArray cn_CONSTANTS, cs_CONSTANTS⟩)
    (v_CONSTANTS : Vals [.non, (.bl false), (.bl true)] cv_CONSTANTS)
    (c_CHARACTERS : PySem.W.nsIn K mainGlobals "CHARACTERS" = some (some (.str " !\"#$ &'()*+,-./0123456789:;<=>?@ABCDEFGHIJKLMNOPQRSTUVWXYZ[\\]^_`abcdefghijklmnopqrstuvwxyz{|}~" t_CHARACTERS)))
    (c_PERCENT_BYTE : PySem.W.nsIn K mainGlobals "PERCENT_BYTE" = some (some (.int 5 t_PERCENT_BYTE)))
    (c_MODULUS : PySem.W.nsIn K mainGlobals "MODULUS" = some (some (.int 65521 t_MODULUS)))
    (c_PAYLOAD : PySem.W.nsIn K mainGlobals "PAYLOAD" = some (some (.int 58 t_PAYLOAD)))
    (c_BLANK : PySem.W.nsIn K mainGlobals "BLANK" = some (some (.ref ca_BLANK)))
    (q_BLANK : K.lookup ca_BLANK = some ⟨.type "tuple", cd0_BLANK, .seq cv_BLANK.toArray cn_BLANK, cs_BLANK⟩)
    (v_BLANK : Vals [(.int 0), (.int 0), (.int 0), (.int 0), (.int 0), (.int 0), (.int 0), (.int 0), (.int 0), (.int 0), (.int 0), (.int 0), (.int 0), (.int 0), (.int 0), (.int 0), (.int 0), (.int 0), (.int 0), (.int 0), (.int 0), (.int 0), (.int 0), (.int 0), (.int 0), (.int 0), (.int 0), (.int 0), (.int 0), (.int 0), (.int 0), (.int 0), (.int 0), (.int 0), (.int 0), (.int 0), (.int 0), (.int 0), (.int 0), (.int 0), (.int 0), (.int 0), (.int 0), (.int 0), (.int 0), (.int 0), (.int 0), (.int 0), (.int 0), (.int 0), (.int 0), (.int 0), (.int 0), (.int 0), (.int 0), (.int 0), (.int 0), (.int 0), (.int 0), (.int 0), (.int 0), (.int 0), (.int 0), (.int 0)] cv_BLANK)
    (c_CHECK_BYTES : PySem.W.nsIn K mainGlobals "CHECK_BYTES" = some (some (.int 4 t_CHECK_BYTES)))
    (c_MOST_KIND : PySem.W.nsIn K mainGlobals "MOST_KIND" = some (some (.int 9 t_MOST_KIND)))
    (c_HEAD_KIND : PySem.W.nsIn K mainGlobals "HEAD_KIND" = some (some (.int 1 t_HEAD_KIND)))
    (c_PART_KIND : PySem.W.nsIn K mainGlobals "PART_KIND" = some (some (.int 2 t_PART_KIND)))
    (c_PIECE : PySem.W.nsIn K mainGlobals "PIECE" = some (some (.int 40 t_PIECE)))
    (c_FIRST_START : PySem.W.nsIn K mainGlobals "FIRST_START" = some (some (.int 2 t_FIRST_START)))
    (n_range : PySem.W.nsIn K mainGlobals "range" = some none)
    (n_min : PySem.W.nsIn K mainGlobals "min" = some none)
    (n_len : PySem.W.nsIn K mainGlobals "len" = some none)
    (n_ord : PySem.W.nsIn K mainGlobals "ord" = some none)
    (n_isinstance : PySem.W.nsIn K mainGlobals "isinstance" = some none)
    (n_bool : PySem.W.nsIn K mainGlobals "bool" = some none)
    (n_int : PySem.W.nsIn K mainGlobals "int" = some none)
    (n_str : PySem.W.nsIn K mainGlobals "str" = some none)
    (n_tuple : PySem.W.nsIn K mainGlobals "tuple" = some none)
    (n_abs : PySem.W.nsIn K mainGlobals "abs" = some none)
    (n_list : PySem.W.nsIn K mainGlobals "list" = some none)
    (n_sum : PySem.W.nsIn K mainGlobals "sum" = some none)
    (n_max : PySem.W.nsIn K mainGlobals "max" = some none) :
    ∃ fd : FuncData, (∀ (s : Shared) (v : Value), BindsTo s fd ⟨[v], []⟩ [("script", v)]) ∧ ∀ base : Heap, K.In base → base.Ns mainGlobals mg → FnOk l.prog w K mg base CX0 48 fa fd ["script"] (sp_law K) := by
  have e : fa = f_law := by
    have z := hfa.symm.trans (PySem.W.mg_of X G g_law)
    injection z with z
    injection z
  rw [e]
  let T : TX K mg := ⟨e_MajordomoError, (PySem.W.mg_of X G g_MajordomoError), x_MajordomoError, k_MajordomoError, s_MajordomoError, t_MajordomoError, e_CodecError, (PySem.W.mg_of X G g_CodecError), x_CodecError, k_CodecError, s_CodecError, t_CodecError, e_Truncated, (PySem.W.mg_of X G g_Truncated), x_Truncated, k_Truncated, s_Truncated, t_Truncated, e_Malformed, (PySem.W.mg_of X G g_Malformed), x_Malformed, k_Malformed, s_Malformed, t_Malformed, e_Damaged, (PySem.W.mg_of X G g_Damaged), x_Damaged, k_Damaged, s_Damaged, t_Damaged, e_NotAValue, (PySem.W.mg_of X G g_NotAValue), x_NotAValue, k_NotAValue, s_NotAValue, t_NotAValue, C_Journal, f_has_plain_characters, (PySem.W.fnOf "has_plain_characters" "has_plain_characters" (defArgs s_has_plain_characters) (defBody s_has_plain_characters) (defScope s_has_plain_characters) .none kV_has_plain_characters dc_has_plain_characters pm_has_plain_characters an_has_plain_characters cd_has_plain_characters ct_has_plain_characters), (fun_mk (st := s_has_plain_characters) l_has_plain_characters c_has_plain_characters k_has_plain_characters), ((fun_mk (st := s_has_plain_characters) l_has_plain_characters c_has_plain_characters k_has_plain_characters).binds (ps := ["text"]) fun _ _ _ _ _ _ us hl => match us, hl with | [_], _ => rfl), (PySem.W.mg_of X G g_has_plain_characters), f_put_number, (PySem.W.fnOf "put_number" "put_number" (defArgs s_put_number) (defBody s_put_number) (defScope s_put_number) .none kV_put_number dc_put_number pm_put_number an_put_number cd_put_number ct_put_number), (fun_mk (st := s_put_number) l_put_number c_put_number k_put_number), ((fun_mk (st := s_put_number) l_put_number c_put_number k_put_number).binds (ps := ["number"]) fun _ _ _ _ _ _ us hl => match us, hl with | [_], _ => rfl), (PySem.W.mg_of X G g_put_number), f_take_number, (PySem.W.fnOf "take_number" "take_number" (defArgs s_take_number) (defBody s_take_number) (defScope s_take_number) .none kV_take_number dc_take_number pm_take_number an_take_number cd_take_number ct_take_number), (fun_mk (st := s_take_number) l_take_number c_take_number k_take_number), ((fun_mk (st := s_take_number) l_take_number c_take_number k_take_number).binds (ps := ["row", "index"]) fun _ _ _ _ _ _ us hl => match us, hl with | [_, _], _ => rfl), (PySem.W.mg_of X G g_take_number), f_is_value, (PySem.W.fnOf "is_value" "is_value" (defArgs s_is_value) (defBody s_is_value) (defScope s_is_value) .none kV_is_value dc_is_value pm_is_value an_is_value cd_is_value ct_is_value), (fun_mk (st := s_is_value) l_is_value c_is_value k_is_value), ((fun_mk (st := s_is_value) l_is_value c_is_value k_is_value).binds (ps := ["value"]) fun _ _ _ _ _ _ us hl => match us, hl with | [_], _ => rfl), (PySem.W.mg_of X G g_is_value), f__is_value_within, (PySem.W.fnOf "_is_value_within" "_is_value_within" (defArgs s__is_value_within) (defBody s__is_value_within) (defScope s__is_value_within) .none kV__is_value_within dc__is_value_within pm__is_value_within an__is_value_within cd__is_value_within ct__is_value_within), (fun_mk (st := s__is_value_within) l__is_value_within c__is_value_within k__is_value_within), ((fun_mk (st := s__is_value_within) l__is_value_within c__is_value_within k__is_value_within).binds (ps := ["value", "depth"]) fun _ _ _ _ _ _ us hl => match us, hl with | [_, _], _ => rfl), (PySem.W.mg_of X G g__is_value_within), f_pack, (PySem.W.fnOf "pack" "pack" (defArgs s_pack) (defBody s_pack) (defScope s_pack) .none kV_pack dc_pack pm_pack an_pack cd_pack ct_pack), (fun_mk (st := s_pack) l_pack c_pack k_pack), ((fun_mk (st := s_pack) l_pack c_pack k_pack).binds (ps := ["value"]) fun _ _ _ _ _ _ us hl => match us, hl with | [_], _ => rfl), (PySem.W.mg_of X G g_pack), f__packed, (PySem.W.fnOf "_packed" "_packed" (defArgs s__packed) (defBody s__packed) (defScope s__packed) .none kV__packed dc__packed pm__packed an__packed cd__packed ct__packed), (fun_mk (st := s__packed) l__packed c__packed k__packed), ((fun_mk (st := s__packed) l__packed c__packed k__packed).binds (ps := ["value"]) fun _ _ _ _ _ _ us hl => match us, hl with | [_], _ => rfl), (PySem.W.mg_of X G g__packed), f_unpack, (PySem.W.fnOf "unpack" "unpack" (defArgs s_unpack) (defBody s_unpack) (defScope s_unpack) .none kV_unpack dc_unpack pm_unpack an_unpack cd_unpack ct_unpack), (fun_mk (st := s_unpack) l_unpack c_unpack k_unpack), ((fun_mk (st := s_unpack) l_unpack c_unpack k_unpack).binds (ps := ["row"]) fun _ _ _ _ _ _ us hl => match us, hl with | [_], _ => rfl), (PySem.W.mg_of X G g_unpack), f__take_value, (PySem.W.fnOf "_take_value" "_take_value" (defArgs s__take_value) (defBody s__take_value) (defScope s__take_value) .none kV__take_value dc__take_value pm__take_value an__take_value cd__take_value ct__take_value), (fun_mk (st := s__take_value) l__take_value c__take_value k__take_value), ((fun_mk (st := s__take_value) l__take_value c__take_value k__take_value).binds (ps := ["row", "index", "depth"]) fun _ _ _ _ _ _ us hl => match us, hl with | [_, _, _], _ => rfl), (PySem.W.mg_of X G g__take_value), f__checked_integer, (PySem.W.fnOf "_checked_integer" "_checked_integer" (defArgs s__checked_integer) (defBody s__checked_integer) (defScope s__checked_integer) .none kV__checked_integer dc__checked_integer pm__checked_integer an__checked_integer cd__checked_integer ct__checked_integer), (fun_mk (st := s__checked_integer) l__checked_integer c__checked_integer k__checked_integer), ((fun_mk (st := s__checked_integer) l__checked_integer c__checked_integer k__checked_integer).binds (ps := ["number"]) fun _ _ _ _ _ _ us hl => match us, hl with | [_], _ => rfl), (PySem.W.mg_of X G g__checked_integer), f__take_text, (PySem.W.fnOf "_take_text" "_take_text" (defArgs s__take_text) (defBody s__take_text) (defScope s__take_text) .none kV__take_text dc__take_text pm__take_text an__take_text cd__take_text ct__take_text), (fun_mk (st := s__take_text) l__take_text c__take_text k__take_text), ((fun_mk (st := s__take_text) l__take_text c__take_text k__take_text).binds (ps := ["row", "index", "length"]) fun _ _ _ _ _ _ us hl => match us, hl with | [_, _, _], _ => rfl), (PySem.W.mg_of X G g__take_text), f__take_members, (PySem.W.fnOf "_take_members" "_take_members" (defArgs s__take_members) (defBody s__take_members) (defScope s__take_members) .none kV__take_members dc__take_members pm__take_members an__take_members cd__take_members ct__take_members), (fun_mk (st := s__take_members) l__take_members c__take_members k__take_members), ((fun_mk (st := s__take_members) l__take_members c__take_members k__take_members).binds (ps := ["row", "index", "length", "depth"]) fun _ _ _ _ _ _ us hl => match us, hl with | [_, _, _, _], _ => rfl), (PySem.W.mg_of X G g__take_members), f_checksum, (PySem.W.fnOf "checksum" "checksum" (defArgs s_checksum) (defBody s_checksum) (defScope s_checksum) (.ref dT_checksum) kV_checksum dc_checksum pm_checksum an_checksum cd_checksum ct_checksum), da_checksum_0, (fun H => Or.inr ⟨_, tv_checksum_0.toArray, tn_checksum_0, lq_checksum_0, rfl, rfl, (by rw [List.size_toArray, ← (Vals.length v_checksum_0)]; exact (by decide : 2 ≤ sizeLine)), (by simpa using v_checksum_0)⟩), (show FunD K "checksum" "checksum" (defArgs s_checksum) (defBody s_checksum) (defScope s_checksum) [.ref da_checksum_0] [] f_checksum (PySem.W.fnOf "checksum" "checksum" (defArgs s_checksum) (defBody s_checksum) (defScope s_checksum) (.ref dT_checksum) kV_checksum dc_checksum pm_checksum an_checksum cd_checksum ct_checksum) from ⟨⟨oc_checksum, od_checksum, .ref dT_checksum, kV_checksum, dc_checksum, pm_checksum, an_checksum, cd_checksum, ct_checksum, sl_checksum, rfl, l_checksum, c_checksum, Or.inr ⟨by simp, dT_checksum, _, [.ref da_checksum_0], dn_checksum, rfl, lT_checksum, rfl, (.cons rfl .nil)⟩, Or.inl rfl⟩, k_checksum⟩), ((show FunD K "checksum" "checksum" (defArgs s_checksum) (defBody s_checksum) (defScope s_checksum) [.ref da_checksum_0] [] f_checksum (PySem.W.fnOf "checksum" "checksum" (defArgs s_checksum) (defBody s_checksum) (defScope s_checksum) (.ref dT_checksum) kV_checksum dc_checksum pm_checksum an_checksum cd_checksum ct_checksum) from ⟨⟨oc_checksum, od_checksum, .ref dT_checksum, kV_checksum, dc_checksum, pm_checksum, an_checksum, cd_checksum, ct_checksum, sl_checksum, rfl, l_checksum, c_checksum, Or.inr ⟨by simp, dT_checksum, _, [.ref da_checksum_0], dn_checksum, rfl, lT_checksum, rfl, (.cons rfl .nil)⟩, Or.inl rfl⟩, k_checksum⟩).binds1 1 0 (by simp) rfl (fun T kV doc pm an cdv ct us its h1 h2 => match us, its, h1, h2 with | [_], [_], _, _ => ⟨_, rfl, rfl⟩)), ((show FunD K "checksum" "checksum" (defArgs s_checksum) (defBody s_checksum) (defScope s_checksum) [.ref da_checksum_0] [] f_checksum (PySem.W.fnOf "checksum" "checksum" (defArgs s_checksum) (defBody s_checksum) (defScope s_checksum) (.ref dT_checksum) kV_checksum dc_checksum pm_checksum an_checksum cd_checksum ct_checksum) from ⟨⟨oc_checksum, od_checksum, .ref dT_checksum, kV_checksum, dc_checksum, pm_checksum, an_checksum, cd_checksum, ct_checksum, sl_checksum, rfl, l_checksum, c_checksum, Or.inr ⟨by simp, dT_checksum, _, [.ref da_checksum_0], dn_checksum, rfl, lT_checksum, rfl, (.cons rfl .nil)⟩, Or.inl rfl⟩, k_checksum⟩).binds1 2 1 (by simp) rfl (fun T kV doc pm an cdv ct us its h1 h2 => match us, its, h1, h2 with | [_, _], [_], _, _ => ⟨_, rfl, rfl⟩)), (PySem.W.mg_of X G g_checksum), f_check_bytes, (PySem.W.fnOf "check_bytes" "check_bytes" (defArgs s_check_bytes) (defBody s_check_bytes) (defScope s_check_bytes) .none kV_check_bytes dc_check_bytes pm_check_bytes an_check_bytes cd_check_bytes ct_check_bytes), (fun_mk (st := s_check_bytes) l_check_bytes c_check_bytes k_check_bytes), ((fun_mk (st := s_check_bytes) l_check_bytes c_check_bytes k_check_bytes).binds (ps := ["pair"]) fun _ _ _ _ _ _ us hl => match us, hl with | [_], _ => rfl), (PySem.W.mg_of X G g_check_bytes), f_make_sector, (PySem.W.fnOf "make_sector" "make_sector" (defArgs s_make_sector) (defBody s_make_sector) (defScope s_make_sector) .none kV_make_sector dc_make_sector pm_make_sector an_make_sector cd_make_sector ct_make_sector), (fun_mk (st := s_make_sector) l_make_sector c_make_sector k_make_sector), ((fun_mk (st := s_make_sector) l_make_sector c_make_sector k_make_sector).binds (ps := ["kind", "payload"]) fun _ _ _ _ _ _ us hl => match us, hl with | [_, _], _ => rfl), (PySem.W.mg_of X G g_make_sector), f_read_sector, (PySem.W.fnOf "read_sector" "read_sector" (defArgs s_read_sector) (defBody s_read_sector) (defScope s_read_sector) .none kV_read_sector dc_read_sector pm_read_sector an_read_sector cd_read_sector ct_read_sector), (fun_mk (st := s_read_sector) l_read_sector c_read_sector k_read_sector), ((fun_mk (st := s_read_sector) l_read_sector c_read_sector k_read_sector).binds (ps := ["sector"]) fun _ _ _ _ _ _ us hl => match us, hl with | [_], _ => rfl), (PySem.W.mg_of X G g_read_sector), f_parts_needed, (PySem.W.fnOf "parts_needed" "parts_needed" (defArgs s_parts_needed) (defBody s_parts_needed) (defScope s_parts_needed) .none kV_parts_needed dc_parts_needed pm_parts_needed an_parts_needed cd_parts_needed ct_parts_needed), (fun_mk (st := s_parts_needed) l_parts_needed c_parts_needed k_parts_needed), ((fun_mk (st := s_parts_needed) l_parts_needed c_parts_needed k_parts_needed).binds (ps := ["record"]) fun _ _ _ _ _ _ us hl => match us, hl with | [_], _ => rfl), (PySem.W.mg_of X G g_parts_needed), f__piece_count, (PySem.W.fnOf "_piece_count" "_piece_count" (defArgs s__piece_count) (defBody s__piece_count) (defScope s__piece_count) .none kV__piece_count dc__piece_count pm__piece_count an__piece_count cd__piece_count ct__piece_count), (fun_mk (st := s__piece_count) l__piece_count c__piece_count k__piece_count), ((fun_mk (st := s__piece_count) l__piece_count c__piece_count k__piece_count).binds (ps := ["packed"]) fun _ _ _ _ _ _ us hl => match us, hl with | [_], _ => rfl), (PySem.W.mg_of X G g__piece_count), f__sector_at, (PySem.W.fnOf "_sector_at" "_sector_at" (defArgs s__sector_at) (defBody s__sector_at) (defScope s__sector_at) .none kV__sector_at dc__sector_at pm__sector_at an__sector_at cd__sector_at ct__sector_at), (fun_mk (st := s__sector_at) l__sector_at c__sector_at k__sector_at), ((fun_mk (st := s__sector_at) l__sector_at c__sector_at k__sector_at).binds (ps := ["sectors", "index"]) fun _ _ _ _ _ _ us hl => match us, hl with | [_, _], _ => rfl), (PySem.W.mg_of X G g__sector_at), f__newest_head, (PySem.W.fnOf "_newest_head" "_newest_head" (defArgs s__newest_head) (defBody s__newest_head) (defScope s__newest_head) .none kV__newest_head dc__newest_head pm__newest_head an__newest_head cd__newest_head ct__newest_head), (fun_mk (st := s__newest_head) l__newest_head c__newest_head k__newest_head), ((fun_mk (st := s__newest_head) l__newest_head c__newest_head k__newest_head).binds (ps := ["sectors"]) fun _ _ _ _ _ _ us hl => match us, hl with | [_], _ => rfl), (PySem.W.mg_of X G g__newest_head), f__read_part, (PySem.W.fnOf "_read_part" "_read_part" (defArgs s__read_part) (defBody s__read_part) (defScope s__read_part) .none kV__read_part dc__read_part pm__read_part an__read_part cd__read_part ct__read_part), (fun_mk (st := s__read_part) l__read_part c__read_part k__read_part), ((fun_mk (st := s__read_part) l__read_part c__read_part k__read_part).binds (ps := ["sector"]) fun _ _ _ _ _ _ us hl => match us, hl with | [_], _ => rfl), (PySem.W.mg_of X G g__read_part), f__read_record, (PySem.W.fnOf "_read_record" "_read_record" (defArgs s__read_record) (defBody s__read_record) (defScope s__read_record) .none kV__read_record dc__read_record pm__read_record an__read_record cd__read_record ct__read_record), (fun_mk (st := s__read_record) l__read_record c__read_record k__read_record), ((fun_mk (st := s__read_record) l__read_record c__read_record k__read_record).binds (ps := ["sectors", "at", "generation", "record", "least_boot"]) fun _ _ _ _ _ _ us hl => match us, hl with | [_, _, _, _, _], _ => rfl), (PySem.W.mg_of X G g__read_record), f__part_sector, (PySem.W.fnOf "_part_sector" "_part_sector" (defArgs s__part_sector) (defBody s__part_sector) (defScope s__part_sector) .none kV__part_sector dc__part_sector pm__part_sector an__part_sector cd__part_sector ct__part_sector), (fun_mk (st := s__part_sector) l__part_sector c__part_sector k__part_sector), ((fun_mk (st := s__part_sector) l__part_sector c__part_sector k__part_sector).binds (ps := ["generation", "boot", "record", "part", "packed"]) fun _ _ _ _ _ _ us hl => match us, hl with | [_, _, _, _, _], _ => rfl), (PySem.W.mg_of X G g__part_sector), f__part_writes, (PySem.W.fnOf "_part_writes" "_part_writes" (defArgs s__part_writes) (defBody s__part_writes) (defScope s__part_writes) .none kV__part_writes dc__part_writes pm__part_writes an__part_writes cd__part_writes ct__part_writes), (fun_mk (st := s__part_writes) l__part_writes c__part_writes k__part_writes), ((fun_mk (st := s__part_writes) l__part_writes c__part_writes k__part_writes).binds (ps := ["rows", "at", "generation", "boot", "record"]) fun _ _ _ _ _ _ us hl => match us, hl with | [_, _, _, _, _], _ => rfl), (PySem.W.mg_of X G g__part_writes), f_Journal___init__, (PySem.W.fnOf "__init__" "Journal.__init__" (defArgs s_Journal___init__) (defBody s_Journal___init__) (defScope s_Journal___init__) .none kV_Journal___init__ dc_Journal___init__ pm_Journal___init__ an_Journal___init__ cd_Journal___init__ ct_Journal___init__), (fun_mk (st := s_Journal___init__) l_Journal___init__ c_Journal___init__ k_Journal___init__), ((fun_mk (st := s_Journal___init__) l_Journal___init__ c_Journal___init__ k_Journal___init__).binds (ps := ["self", "sectors", "boot"]) fun _ _ _ _ _ _ us hl => match us, hl with | [_, _, _], _ => rfl), f_Journal__read_records, (PySem.W.fnOf "_read_records" "Journal._read_records" (defArgs s_Journal__read_records) (defBody s_Journal__read_records) (defScope s_Journal__read_records) .none kV_Journal__read_records dc_Journal__read_records pm_Journal__read_records an_Journal__read_records cd_Journal__read_records ct_Journal__read_records), (fun_mk (st := s_Journal__read_records) l_Journal__read_records c_Journal__read_records k_Journal__read_records), ((fun_mk (st := s_Journal__read_records) l_Journal__read_records c_Journal__read_records k_Journal__read_records).binds (ps := ["self", "sectors", "least_boot"]) fun _ _ _ _ _ _ us hl => match us, hl with | [_, _, _], _ => rfl), ⟨m_Journal__read_records, i_Journal__read_records, k_Journal__read_records⟩, f_Journal_records, (PySem.W.fnOf "records" "Journal.records" (defArgs s_Journal_records) (defBody s_Journal_records) (defScope s_Journal_records) .none kV_Journal_records dc_Journal_records pm_Journal_records an_Journal_records cd_Journal_records ct_Journal_records), (fun_mk (st := s_Journal_records) l_Journal_records c_Journal_records k_Journal_records), ((fun_mk (st := s_Journal_records) l_Journal_records c_Journal_records k_Journal_records).binds (ps := ["self"]) fun _ _ _ _ _ _ us hl => match us, hl with | [_], _ => rfl), ⟨m_Journal_records, i_Journal_records, k_Journal_records⟩, f_Journal_append, (PySem.W.fnOf "append" "Journal.append" (defArgs s_Journal_append) (defBody s_Journal_append) (defScope s_Journal_append) .none kV_Journal_append dc_Journal_append pm_Journal_append an_Journal_append cd_Journal_append ct_Journal_append), (fun_mk (st := s_Journal_append) l_Journal_append c_Journal_append k_Journal_append), ((fun_mk (st := s_Journal_append) l_Journal_append c_Journal_append k_Journal_append).binds (ps := ["self", "records"]) fun _ _ _ _ _ _ us hl => match us, hl with | [_, _], _ => rfl), ⟨m_Journal_append, i_Journal_append, k_Journal_append⟩, f_Journal_rewrite, (PySem.W.fnOf "rewrite" "Journal.rewrite" (defArgs s_Journal_rewrite) (defBody s_Journal_rewrite) (defScope s_Journal_rewrite) .none kV_Journal_rewrite dc_Journal_rewrite pm_Journal_rewrite an_Journal_rewrite cd_Journal_rewrite ct_Journal_rewrite), (fun_mk (st := s_Journal_rewrite) l_Journal_rewrite c_Journal_rewrite k_Journal_rewrite), ((fun_mk (st := s_Journal_rewrite) l_Journal_rewrite c_Journal_rewrite k_Journal_rewrite).binds (ps := ["self", "records"]) fun _ _ _ _ _ _ us hl => match us, hl with | [_, _], _ => rfl), ⟨m_Journal_rewrite, i_Journal_rewrite, k_Journal_rewrite⟩, f__law_is_integer, (PySem.W.fnOf "_law_is_integer" "_law_is_integer" (defArgs s__law_is_integer) (defBody s__law_is_integer) (defScope s__law_is_integer) .none kV__law_is_integer dc__law_is_integer pm__law_is_integer an__law_is_integer cd__law_is_integer ct__law_is_integer), (fun_mk (st := s__law_is_integer) l__law_is_integer c__law_is_integer k__law_is_integer), ((fun_mk (st := s__law_is_integer) l__law_is_integer c__law_is_integer k__law_is_integer).binds (ps := ["actual"]) fun _ _ _ _ _ _ us hl => match us, hl with | [_], _ => rfl), (PySem.W.mg_of X G g__law_is_integer), f__law_draws, (PySem.W.fnOf "_law_draws" "_law_draws" (defArgs s__law_draws) (defBody s__law_draws) (defScope s__law_draws) .none kV__law_draws dc__law_draws pm__law_draws an__law_draws cd__law_draws ct__law_draws), (fun_mk (st := s__law_draws) l__law_draws c__law_draws k__law_draws), ((fun_mk (st := s__law_draws) l__law_draws c__law_draws k__law_draws).binds (ps := ["script", "many"]) fun _ _ _ _ _ _ us hl => match us, hl with | [_, _], _ => rfl), (PySem.W.mg_of X G g__law_draws), f__law_record, (PySem.W.fnOf "_law_record" "_law_record" (defArgs s__law_record) (defBody s__law_record) (defScope s__law_record) .none kV__law_record dc__law_record pm__law_record an__law_record cd__law_record ct__law_record), (fun_mk (st := s__law_record) l__law_record c__law_record k__law_record), ((fun_mk (st := s__law_record) l__law_record c__law_record k__law_record).binds (ps := ["draws"]) fun _ _ _ _ _ _ us hl => match us, hl with | [_], _ => rfl), (PySem.W.mg_of X G g__law_record), f__law_write, (PySem.W.fnOf "_law_write" "_law_write" (defArgs s__law_write) (defBody s__law_write) (defScope s__law_write) .none kV__law_write dc__law_write pm__law_write an__law_write cd__law_write ct__law_write), (fun_mk (st := s__law_write) l__law_write c__law_write k__law_write), ((fun_mk (st := s__law_write) l__law_write c__law_write k__law_write).binds (ps := ["disk", "index", "sector"]) fun _ _ _ _ _ _ us hl => match us, hl with | [_, _, _], _ => rfl), (PySem.W.mg_of X G g__law_write), f__law_step, (PySem.W.fnOf "_law_step" "_law_step" (defArgs s__law_step) (defBody s__law_step) (defScope s__law_step) .none kV__law_step dc__law_step pm__law_step an__law_step cd__law_step ct__law_step), (fun_mk (st := s__law_step) l__law_step c__law_step k__law_step), ((fun_mk (st := s__law_step) l__law_step c__law_step k__law_step).binds (ps := ["disk", "unsafe", "step"]) fun _ _ _ _ _ _ us hl => match us, hl with | [_, _, _], _ => rfl), (PySem.W.mg_of X G g__law_step), f__law_fall, (PySem.W.fnOf "_law_fall" "_law_fall" (defArgs s__law_fall) (defBody s__law_fall) (defScope s__law_fall) .none kV__law_fall dc__law_fall pm__law_fall an__law_fall cd__law_fall ct__law_fall), (fun_mk (st := s__law_fall) l__law_fall c__law_fall k__law_fall), ((fun_mk (st := s__law_fall) l__law_fall c__law_fall k__law_fall).binds (ps := ["disk", "unsafe", "draws"]) fun _ _ _ _ _ _ us hl => match us, hl with | [_, _, _], _ => rfl), (PySem.W.mg_of X G g__law_fall), f__law_run_steps, (PySem.W.fnOf "_law_run_steps" "_law_run_steps" (defArgs s__law_run_steps) (defBody s__law_run_steps) (defScope s__law_run_steps) .none kV__law_run_steps dc__law_run_steps pm__law_run_steps an__law_run_steps cd__law_run_steps ct__law_run_steps), (fun_mk (st := s__law_run_steps) l__law_run_steps c__law_run_steps k__law_run_steps), ((fun_mk (st := s__law_run_steps) l__law_run_steps c__law_run_steps k__law_run_steps).binds (ps := ["disk", "steps", "count"]) fun _ _ _ _ _ _ us hl => match us, hl with | [_, _, _], _ => rfl), (PySem.W.mg_of X G g__law_run_steps), f__law_room, (PySem.W.fnOf "_law_room" "_law_room" (defArgs s__law_room) (defBody s__law_room) (defScope s__law_room) .none kV__law_room dc__law_room pm__law_room an__law_room cd__law_room ct__law_room), (fun_mk (st := s__law_room) l__law_room c__law_room k__law_room), ((fun_mk (st := s__law_room) l__law_room c__law_room k__law_room).binds (ps := ["records"]) fun _ _ _ _ _ _ us hl => match us, hl with | [_], _ => rfl), (PySem.W.mg_of X G g__law_room), f__law_inside, (PySem.W.fnOf "_law_inside" "_law_inside" (defArgs s__law_inside) (defBody s__law_inside) (defScope s__law_inside) .none kV__law_inside dc__law_inside pm__law_inside an__law_inside cd__law_inside ct__law_inside), (fun_mk (st := s__law_inside) l__law_inside c__law_inside k__law_inside), ((fun_mk (st := s__law_inside) l__law_inside c__law_inside k__law_inside).binds (ps := ["steps", "most"]) fun _ _ _ _ _ _ us hl => match us, hl with | [_, _], _ => rfl), (PySem.W.mg_of X G g__law_inside), f_law, (PySem.W.fnOf "law" "law" (defArgs s_law) (defBody s_law) (defScope s_law) .none kV_law dc_law pm_law an_law cd_law ct_law), (fun_mk (st := s_law) l_law c_law k_law), ((fun_mk (st := s_law) l_law c_law k_law).binds (ps := ["script"]) fun _ _ _ _ _ _ us hl => match us, hl with | [_], _ => rfl), (PySem.W.mg_of X G g_law), ⟨pg_Journal, hd_Journal, po_Journal, sa_Journal⟩, (PySem.W.mg_of X G gc_Journal), ⟨mk_Journal, m_Journal___init__, i_Journal___init__, kc_Journal⟩, na_Journal__boot, na_Journal__generation, na_Journal__start, na_Journal__used, na_Journal__records, t_SPACE, (PySem.W.mg_of X G c_SPACE), t_PERCENT, (PySem.W.mg_of X G c_PERCENT), t_TILDE, (PySem.W.mg_of X G c_TILDE), t_MOST_BYTES, (PySem.W.mg_of X G c_MOST_BYTES), t_MOST_BITS, (PySem.W.mg_of X G c_MOST_BITS), t_MOST_LENGTH, (PySem.W.mg_of X G c_MOST_LENGTH), t_MOST_DEPTH, (PySem.W.mg_of X G c_MOST_DEPTH), t_FALSE_TAG, (PySem.W.mg_of X G c_FALSE_TAG), t_TRUE_TAG, (PySem.W.mg_of X G c_TRUE_TAG), t_NATURAL_TAG, (PySem.W.mg_of X G c_NATURAL_TAG), t_NEGATIVE_TAG, (PySem.W.mg_of X G c_NEGATIVE_TAG), t_TEXT_TAG, (PySem.W.mg_of X G c_TEXT_TAG), t_TUPLE_TAG, (PySem.W.mg_of X G c_TUPLE_TAG), ca_CONSTANTS, (PySem.W.mg_of X G c_CONSTANTS), (fun H => Or.inr ⟨_, cv_CONSTANTS.toArray, cn_CONSTANTS, q_CONSTANTS, rfl, rfl, (by rw [List.size_toArray, ← (Vals.length v_CONSTANTS)]; exact (by decide : 3 ≤ sizeLine)), (by simpa using v_CONSTANTS)⟩), t_CHARACTERS, (PySem.W.mg_of X G c_CHARACTERS), t_PERCENT_BYTE, (PySem.W.mg_of X G c_PERCENT_BYTE), t_MODULUS, (PySem.W.mg_of X G c_MODULUS), t_PAYLOAD, (PySem.W.mg_of X G c_PAYLOAD), ca_BLANK, (PySem.W.mg_of X G c_BLANK), (fun H => Or.inr ⟨_, cv_BLANK.toArray, cn_BLANK, q_BLANK, rfl, rfl, (by rw [List.size_toArray, ← (Vals.length v_BLANK)]; exact (by decide : 64 ≤ sizeLine)), (by simpa using v_BLANK)⟩), t_CHECK_BYTES, (PySem.W.mg_of X G c_CHECK_BYTES), t_MOST_KIND, (PySem.W.mg_of X G c_MOST_KIND), t_HEAD_KIND, (PySem.W.mg_of X G c_HEAD_KIND), t_PART_KIND, (PySem.W.mg_of X G c_PART_KIND), t_PIECE, (PySem.W.mg_of X G c_PIECE), t_FIRST_START, (PySem.W.mg_of X G c_FIRST_START), (PySem.W.mg_none_of X G n_range), (PySem.W.mg_none_of X G n_min), (PySem.W.mg_none_of X G n_len), (PySem.W.mg_none_of X G n_ord), (PySem.W.mg_none_of X G n_isinstance), (PySem.W.mg_none_of X G n_bool), (PySem.W.mg_none_of X G n_int), (PySem.W.mg_none_of X G n_str), (PySem.W.mg_none_of X G n_tuple), (PySem.W.mg_none_of X G n_abs), (PySem.W.mg_none_of X G n_list), (PySem.W.mg_none_of X G n_sum), (PySem.W.mg_none_of X G n_max)⟩
  exact ⟨T.d_law, fun s v => .of_eq rfl, fun base _ _ => ok_law T⟩
end My
open PySem PySem.W PyProof.Rows
set_option maxHeartbeats 0 in
theorem PySem.Challenge.cw_majordomo_k11_room_for_a_journal_holds : PySem.Challenge.rw_majordomo_k11_room_for_a_journal.Holds := by
  w_on; o_law; k_head; (case hw => w_witness2)
  k_fill
  refine L2.walk_of (l := PySem.Challenge.rw_majordomo_k11_room_for_a_journal) (n := 63) (k := 48) (x := "script") (CX := (fun _ => L2.CX0)) (sp := fun w => My.sp_law _) rfl (by decide) rfl ⟨rfl, by decide, by decide⟩ (fun w h Y => PySem.W.kIn_of Y) ?F (fun _ _ a ns hl _ hS => ⟨a, ns, rfl, hS, hl, fun _ => rfl⟩) (fun _ _ _ _ _ h => h)
  case F =>
    intro w mg fa h KX G hmg
    refine' My.all_mk KX G hmg ?g_MajordomoError ?x_MajordomoError ?k_MajordomoError ?s_MajordomoError ?t_MajordomoError ?g_CodecError ?x_CodecError ?k_CodecError ?s_CodecError ?t_CodecError ?g_Truncated ?x_Truncated ?k_Truncated ?s_Truncated ?t_Truncated ?g_Malformed ?x_Malformed ?k_Malformed ?s_Malformed ?t_Malformed ?g_Damaged ?x_Damaged ?k_Damaged ?s_Damaged ?t_Damaged ?g_NotAValue ?x_NotAValue ?k_NotAValue ?s_NotAValue ?t_NotAValue ?g_has_plain_characters ?l_has_plain_characters ?c_has_plain_characters ?k_has_plain_characters ?g_put_number ?l_put_number ?c_put_number ?k_put_number ?g_take_number ?l_take_number ?c_take_number ?k_take_number ?g_is_value ?l_is_value ?c_is_value ?k_is_value ?g__is_value_within ?l__is_value_within ?c__is_value_within ?k__is_value_within ?g_pack ?l_pack ?c_pack ?k_pack ?g__packed ?l__packed ?c__packed ?k__packed ?g_unpack ?l_unpack ?c_unpack ?k_unpack ?g__take_value ?l__take_value ?c__take_value ?k__take_value ?g__checked_integer ?l__checked_integer ?c__checked_integer ?k__checked_integer ?g__take_text ?l__take_text ?c__take_text ?k__take_text ?g__take_members ?l__take_members ?c__take_members ?k__take_members ?g_checksum ?l_checksum ?c_checksum ?k_checksum ?lT_checksum ?lq_checksum_0 ?v_checksum_0 ?g_check_bytes ?l_check_bytes ?c_check_bytes ?k_check_bytes ?g_make_sector ?l_make_sector ?c_make_sector ?k_make_sector ?g_read_sector ?l_read_sector ?c_read_sector ?k_read_sector ?g_parts_needed ?l_parts_needed ?c_parts_needed ?k_parts_needed ?g__piece_count ?l__piece_count ?c__piece_count ?k__piece_count ?g__sector_at ?l__sector_at ?c__sector_at ?k__sector_at ?g__newest_head ?l__newest_head ?c__newest_head ?k__newest_head ?g__read_part ?l__read_part ?c__read_part ?k__read_part ?g__read_record ?l__read_record ?c__read_record ?k__read_record ?g__part_sector ?l__part_sector ?c__part_sector ?k__part_sector ?g__part_writes ?l__part_writes ?c__part_writes ?k__part_writes ?gc_Journal ?m_Journal___init__ ?i_Journal___init__ ?l_Journal___init__ ?c_Journal___init__ ?k_Journal___init__ ?m_Journal__read_records ?i_Journal__read_records ?l_Journal__read_records ?c_Journal__read_records ?k_Journal__read_records ?m_Journal_records ?i_Journal_records ?l_Journal_records ?c_Journal_records ?k_Journal_records ?m_Journal_append ?i_Journal_append ?l_Journal_append ?c_Journal_append ?k_Journal_append ?m_Journal_rewrite ?i_Journal_rewrite ?l_Journal_rewrite ?c_Journal_rewrite ?k_Journal_rewrite ?g__law_is_integer ?l__law_is_integer ?c__law_is_integer ?k__law_is_integer ?g__law_draws ?l__law_draws ?c__law_draws ?k__law_draws ?g__law_record ?l__law_record ?c__law_record ?k__law_record ?g__law_write ?l__law_write ?c__law_write ?k__law_write ?g__law_step ?l__law_step ?c__law_step ?k__law_step ?g__law_fall ?l__law_fall ?c__law_fall ?k__law_fall ?g__law_run_steps ?l__law_run_steps ?c__law_run_steps ?k__law_run_steps ?g__law_room ?l__law_room ?c__law_room ?k__law_room ?g__law_inside ?l__law_inside ?c__law_inside ?k__law_inside ?g_law ?l_law ?c_law ?k_law ?pg_Journal ?hd_Journal ?po_Journal ?sa_Journal ?mk_Journal ?kc_Journal ?na_Journal__boot ?na_Journal__generation ?na_Journal__start ?na_Journal__used ?na_Journal__records ?c_SPACE ?c_PERCENT ?c_TILDE ?c_MOST_BYTES ?c_MOST_BITS ?c_MOST_LENGTH ?c_MOST_DEPTH ?c_FALSE_TAG ?c_TRUE_TAG ?c_NATURAL_TAG ?c_NEGATIVE_TAG ?c_TEXT_TAG ?c_TUPLE_TAG ?c_CONSTANTS ?q_CONSTANTS ?v_CONSTANTS ?c_CHARACTERS ?c_PERCENT_BYTE ?c_MODULUS ?c_PAYLOAD ?c_BLANK ?q_BLANK ?v_BLANK ?c_CHECK_BYTES ?c_MOST_KIND ?c_HEAD_KIND ?c_PART_KIND ?c_PIECE ?c_FIRST_START ?n_range ?n_min ?n_len ?n_ord ?n_isinstance ?n_bool ?n_int ?n_str ?n_tuple ?n_abs ?n_list ?n_sum ?n_max
    (case g_MajordomoError => k_is); (case x_MajordomoError => k_exc); (case k_MajordomoError => k_is); (case s_MajordomoError => k_is); (case t_MajordomoError => k_is); (case g_CodecError => k_is); (case x_CodecError => k_exc); (case k_CodecError => k_is); (case s_CodecError => k_is); (case t_CodecError => k_is); (case g_Truncated => k_is); (case x_Truncated => k_exc); (case k_Truncated => k_is); (case s_Truncated => k_is); (case t_Truncated => k_is); (case g_Malformed => k_is); (case x_Malformed => k_exc); (case k_Malformed => k_is); (case s_Malformed => k_is); (case t_Malformed => k_is); (case g_Damaged => k_is); (case x_Damaged => k_exc); (case k_Damaged => k_is); (case s_Damaged => k_is); (case t_Damaged => k_is); (case g_NotAValue => k_is); (case x_NotAValue => k_exc); (case k_NotAValue => k_is); (case s_NotAValue => k_is); (case t_NotAValue => k_is); (case g_has_plain_characters => k_is); (case l_has_plain_characters => k_is); (case c_has_plain_characters => k_is); (case k_has_plain_characters => k_is); (case g_put_number => k_is); (case l_put_number => k_is); (case c_put_number => k_is); (case k_put_number => k_is); (case g_take_number => k_is); (case l_take_number => k_is); (case c_take_number => k_is); (case k_take_number => k_is); (case g_is_value => k_is); (case l_is_value => k_is); (case c_is_value => k_is); (case k_is_value => k_is); (case g__is_value_within => k_is); (case l__is_value_within => k_is); (case c__is_value_within => k_is); (case k__is_value_within => k_is); (case g_pack => k_is); (case l_pack => k_is); (case c_pack => k_is); (case k_pack => k_is); (case g__packed => k_is); (case l__packed => k_is); (case c__packed => k_is); (case k__packed => k_is); (case g_unpack => k_is); (case l_unpack => k_is); (case c_unpack => k_is); (case k_unpack => k_is); (case g__take_value => k_is); (case l__take_value => k_is); (case c__take_value => k_is); (case k__take_value => k_is); (case g__checked_integer => k_is); (case l__checked_integer => k_is); (case c__checked_integer => k_is); (case k__checked_integer => k_is); (case g__take_text => k_is); (case l__take_text => k_is); (case c__take_text => k_is); (case k__take_text => k_is); (case g__take_members => k_is); (case l__take_members => k_is); (case c__take_members => k_is); (case k__take_members => k_is); (case g_checksum => k_is); (case l_checksum => k_is); (case c_checksum => k_is); (case k_checksum => k_is); (case lT_checksum => k_is); (case lq_checksum_0 => k_is); (case v_checksum_0 => (repeat (first | exact .nil | refine .cons ⟨_, rfl⟩ ?_ | refine .cons rfl ?_))); (case g_check_bytes => k_is); (case l_check_bytes => k_is); (case c_check_bytes => k_is); (case k_check_bytes => k_is); (case g_make_sector => k_is); (case l_make_sector => k_is); (case c_make_sector => k_is); (case k_make_sector => k_is); (case g_read_sector => k_is); (case l_read_sector => k_is); (case c_read_sector => k_is); (case k_read_sector => k_is); (case g_parts_needed => k_is); (case l_parts_needed => k_is); (case c_parts_needed => k_is); (case k_parts_needed => k_is); (case g__piece_count => k_is); (case l__piece_count => k_is); (case c__piece_count => k_is); (case k__piece_count => k_is); (case g__sector_at => k_is); (case l__sector_at => k_is); (case c__sector_at => k_is); (case k__sector_at => k_is); (case g__newest_head => k_is); (case l__newest_head => k_is); (case c__newest_head => k_is); (case k__newest_head => k_is); (case g__read_part => k_is); (case l__read_part => k_is); (case c__read_part => k_is); (case k__read_part => k_is); (case g__read_record => k_is); (case l__read_record => k_is); (case c__read_record => k_is); (case k__read_record => k_is); (case g__part_sector => k_is); (case l__part_sector => k_is); (case c__part_sector => k_is); (case k__part_sector => k_is); (case g__part_writes => k_is); (case l__part_writes => k_is); (case c__part_writes => k_is); (case k__part_writes => k_is); (case gc_Journal => k_is); (case m_Journal___init__ => k_is); (case i_Journal___init__ => k_is); (case l_Journal___init__ => k_is); (case c_Journal___init__ => k_is); (case k_Journal___init__ => k_is); (case m_Journal__read_records => k_is); (case i_Journal__read_records => k_is); (case l_Journal__read_records => k_is); (case c_Journal__read_records => k_is); (case k_Journal__read_records => k_is); (case m_Journal_records => k_is); (case i_Journal_records => k_is); (case l_Journal_records => k_is); (case c_Journal_records => k_is); (case k_Journal_records => k_is); (case m_Journal_append => k_is); (case i_Journal_append => k_is); (case l_Journal_append => k_is); (case c_Journal_append => k_is); (case k_Journal_append => k_is); (case m_Journal_rewrite => k_is); (case i_Journal_rewrite => k_is); (case l_Journal_rewrite => k_is); (case c_Journal_rewrite => k_is); (case k_Journal_rewrite => k_is); (case g__law_is_integer => k_is); (case l__law_is_integer => k_is); (case c__law_is_integer => k_is); (case k__law_is_integer => k_is); (case g__law_draws => k_is); (case l__law_draws => k_is); (case c__law_draws => k_is); (case k__law_draws => k_is); (case g__law_record => k_is); (case l__law_record => k_is); (case c__law_record => k_is); (case k__law_record => k_is); (case g__law_write => k_is); (case l__law_write => k_is); (case c__law_write => k_is); (case k__law_write => k_is); (case g__law_step => k_is); (case l__law_step => k_is); (case c__law_step => k_is); (case k__law_step => k_is); (case g__law_fall => k_is); (case l__law_fall => k_is); (case c__law_fall => k_is); (case k__law_fall => k_is); (case g__law_run_steps => k_is); (case l__law_run_steps => k_is); (case c__law_run_steps => k_is); (case k__law_run_steps => k_is); (case g__law_room => k_is); (case l__law_room => k_is); (case c__law_room => k_is); (case k__law_room => k_is); (case g__law_inside => k_is); (case l__law_inside => k_is); (case c__law_inside => k_is); (case k__law_inside => k_is); (case g_law => k_is); (case l_law => k_is); (case c_law => k_is); (case k_law => k_is); (case pg_Journal => k_is); (case hd_Journal => k_is); (case po_Journal => k_is); (case sa_Journal => k_is); (case mk_Journal => k_is); (case kc_Journal => k_is); (case na_Journal__boot => k_is); (case na_Journal__generation => k_is); (case na_Journal__start => k_is); (case na_Journal__used => k_is); (case na_Journal__records => k_is); (case c_SPACE => k_is); (case c_PERCENT => k_is); (case c_TILDE => k_is); (case c_MOST_BYTES => k_is); (case c_MOST_BITS => k_is); (case c_MOST_LENGTH => k_is); (case c_MOST_DEPTH => k_is); (case c_FALSE_TAG => k_is); (case c_TRUE_TAG => k_is); (case c_NATURAL_TAG => k_is); (case c_NEGATIVE_TAG => k_is); (case c_TEXT_TAG => k_is); (case c_TUPLE_TAG => k_is); (case c_CONSTANTS => k_is); (case q_CONSTANTS => k_is); (case v_CONSTANTS => (repeat (first | exact .nil | refine .cons ⟨_, rfl⟩ ?_ | refine .cons rfl ?_))); (case c_CHARACTERS => k_is); (case c_PERCENT_BYTE => k_is); (case c_MODULUS => k_is); (case c_PAYLOAD => k_is); (case c_BLANK => k_is); (case q_BLANK => k_is); (case v_BLANK => (repeat (first | exact .nil | refine .cons ⟨_, rfl⟩ ?_ | refine .cons rfl ?_))); (case c_CHECK_BYTES => k_is); (case c_MOST_KIND => k_is); (case c_HEAD_KIND => k_is); (case c_PART_KIND => k_is); (case c_PIECE => k_is); (case c_FIRST_START => k_is); (case n_range => k_is); (case n_min => k_is); (case n_len => k_is); (case n_ord => k_is); (case n_isinstance => k_is); (case n_bool => k_is); (case n_int => k_is); (case n_str => k_is); (case n_tuple => k_is); (case n_abs => k_is); (case n_list => k_is); (case n_sum => k_is); (case n_max => k_is)

