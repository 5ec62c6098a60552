import PyProof.Rows.All
import Wide.All
import OpenK.AllK
import Wide.FinOn
import HandS.ForMost
import HandS.IsInst
import HandS.EndBits
import HandS.Wide
import HandS.WideBits
import HandS.TupAny
import HandS.Codes
import HandS.Defaults
import HandS.ForExc
import HandS.TryMany
import HandS.ExcIs
import HandS.TryElse
import HandS.DictComp
import HandS.Walk
import PySem.Challenge.RW_majordomo_k07_sectors
set_option Elab.async false
set_option linter.all false
set_option maxRecDepth 100000
set_option maxHeartbeats 4000000

namespace My
open PySem PySem.Spec PyProof.Rows L2
/-! own words: tests, heaps, items -/
theorem ifd {p A B : Prop} [Decidable p] (h1 : p → A) (h2 : ¬ p → B) : if decide p = true then A else B := by
  by_cases h : p
  · rw [decide_eq_true h]; exact (if_pos rfl).mpr (h1 h)
  · rw [decide_eq_false h]; exact (if_neg Bool.false_ne_true).mpr (h2 h)
theorem ifn {p A B : Prop} [Decidable p] (h1 : ¬ p → A) (h2 : p → B) : if (!decide p) = true then A else B := by
  by_cases h : p
  · rw [decide_eq_true h]; exact (if_neg Bool.false_ne_true).mpr (h2 h)
  · rw [decide_eq_false h]; exact (if_pos rfl).mpr (h1 h)
theorem ift {p A B : Prop} [Decidable p] (h : p) (h1 : A) : if decide p = true then A else B := by
  rw [decide_eq_true h]; exact (if_pos rfl).mpr h1
theorem iff0 {p A B : Prop} [Decidable p] (h : ¬ p) (h1 : B) : if decide p = true then A else B := by
  rw [decide_eq_false h]; exact (if_neg Bool.false_ne_true).mpr h1
theorem ifnt {p A B : Prop} [Decidable p] (h : p) (h1 : B) : if (!decide p) = true then A else B := by
  rw [decide_eq_true h]; exact (if_neg Bool.false_ne_true).mpr h1
theorem ifbt {b : Bool} {A B : Prop} (h : b = true) (h1 : A) : if b = true then A else B := (if_pos h).mpr h1
theorem ifbf {b : Bool} {A B : Prop} (h : b = false) (h1 : B) : if b = true then A else B := by rw [h]; exact h1
theorem ifb2 {b : Bool} {A B : Prop} (h1 : b = true → A) (h2 : b = false → B) : if b = true then A else B := by
  cases b with
  | true => exact h1 rfl
  | false => exact h2 rfl
theorem same_upd {H : Hp} {p : Addr} {o : HO} (h : H p = none) : Same H (upd H p o) := fun b x e => by
  rw [upd_ne (ne_of_none e h)]
  exact e
theorem same_put {H H' : Hp} {p : Addr} {o : HO} (e : Same H H') (h : H p = none) : Same H (upd H' p o) := fun b x q => by
  rw [upd_ne (ne_of_none q h)]
  exact e b x q
theorem sqt_same {K : PySem.W.Frag} {H H' : Hp} {a : Addr} {xs : List V} (e : Same H H') (h : SqT K H a xs) : SqT K H' a xs := by
  rcases h with (h | ⟨o, h⟩) | h
  · exact .inl (.inl (e _ _ h))
  · exact .inl (.inr ⟨o, e _ _ h⟩)
  · exact .inr h
theorem sql {K : PySem.W.Frag} {H : Hp} {a : Addr} {xs : List V} (h : H a = some (.lst xs)) : SqL K H a xs := .inl (.inl h)
theorem sqt {K : PySem.W.Frag} {H : Hp} {a : Addr} {xs : List V} (h : H a = some (.tup xs)) : SqT K H a xs := .inl (.inl h)
theorem sz {n : Nat} (h : n ≤ 100000) : n ≤ sizeLine := Nat.le_trans h (by decide)
theorem szl {n : Nat} (h : n ≤ 100000) : n < sizeLine := Nat.lt_of_le_of_lt h (by decide)
theorem map_at {α : Type} {f : α → V} {xs : List α} {i : Nat} {y : V} (h : (xs.map f)[i]? = some y) : ∃ x, xs[i]? = some x ∧ y = f x := by
  rw [List.getElem?_map] at h
  cases e : xs[i]? with
  | none => rw [e] at h; cases h
  | some x => rw [e] at h; exact ⟨x, rfl, (Option.some.inj h).symm⟩
theorem at_map {α : Type} {f : α → V} {xs : List α} {i : Nat} {x : α} (h : xs[i]? = some x) : atI (xs.map f) (i : Int) = some (f x) := atI_nat (by rw [List.getElem?_map, h]; rfl)
theorem take_more {α : Type} {l : List α} {i : Nat} {x : α} (h : l[i]? = some x) : l.take (i + 1) = l.take i ++ [x] := by
  rw [List.take_add_one, h]; rfl
/-! deep data stands as long as what was tracked stands -/
mutual
theorem dp_same {K : PySem.W.Frag} {H H' : Hp} (e : Same H H') : ∀ (d : PyData) {v : V}, Dp K H v d → Dp K H' v d
  | _, _, .non => .non
  | _, _, .bl b => .bl b
  | _, _, .int i => .int i
  | _, _, .str x => .str x
  | .list ds, _, .lst h a => .lst (e.seq h) (dpa_same e ds a)
  | .tuple ds, _, .tup h a => .tup (sqt_same e h) (dpa_same e ds a)
theorem dpa_same {K : PySem.W.Frag} {H H' : Hp} (e : Same H H') : ∀ (ds : List PyData) {vs : List V}, DpAll K H vs ds → DpAll K H' vs ds
  | [], _, .nil => .nil
  | d :: ds, _, .cons h a => .cons (dp_same e d h) (dpa_same e ds a)
end
theorem dpa_len {K : PySem.W.Frag} {H : Hp} : ∀ {vs : List V} {ds : List PyData}, DpAll K H vs ds → vs.length = ds.length
  | _, _, .nil => rfl
  | _, _, .cons _ a => by rw [List.length_cons, List.length_cons, dpa_len a]
theorem dpa_at {K : PySem.W.Frag} {H : Hp} : ∀ {vs : List V} {ds : List PyData} {i : Nat} {v : V}, DpAll K H vs ds → vs[i]? = some v → ∃ d, ds[i]? = some d ∧ Dp K H v d
  | _, _, _, _, .nil, h => by simp at h
  | _, _, 0, _, .cons h _, e => ⟨_, rfl, by have := Option.some.inj e; subst this; exact h⟩
  | _, _, i + 1, _, .cons _ a, e => dpa_at (i := i) a (by simpa using e)
theorem dpa_app {K : PySem.W.Frag} {H : Hp} : ∀ {vs ws : List V} {ds es : List PyData}, DpAll K H vs ds → DpAll K H ws es → DpAll K H (vs ++ ws) (ds ++ es)
  | _, _, _, _, .nil, b => b
  | _, _, _, _, .cons h a, b => .cons h (dpa_app a b)
theorem eqv_self {d : PyData} (h : SeqAt.shaped d = true) : PyData.eqv d d = true := SeqAt.eqv_refl d (SeqAt.canLay_of_shaped h)
/-! data that may be compared -/
theorem layAll : ∀ {ds : List PyData}, (∀ d ∈ ds, d.canLay0 = true) → PyData.canLayAll0 ds = true
  | [], _ => rfl
  | d :: ds, h => by
    rw [PyData.canLayAll0, h d List.mem_cons_self, layAll fun e he => h e (List.mem_cons_of_mem _ he)]; rfl
theorem depAll {n : Nat} : ∀ {ds : List PyData}, (∀ d ∈ ds, d.depth ≤ n) → PyData.depthAll ds ≤ n
  | [], _ => Nat.zero_le _
  | d :: ds, h => by
    have h1 := h d List.mem_cons_self
    have h2 := depAll (ds := ds) fun e he => h e (List.mem_cons_of_mem _ he)
    simp only [PyData.depthAll]
    omega
/-- plain data of at most this depth -/
def Flat (n : Nat) (d : PyData) : Prop := d.canLay0 = true ∧ d.depth ≤ n
theorem flat_list {n : Nat} {ds : List PyData} (h : ∀ d ∈ ds, Flat n d) : Flat (n + 1) (.list ds) :=
  ⟨by rw [PyData.canLay0]; exact layAll fun d hd => (h d hd).1, by have := depAll (n := n) fun d hd => (h d hd).2; simp only [PyData.depth]; omega⟩
theorem flat_tup {n : Nat} {ds : List PyData} (h : ∀ d ∈ ds, Flat n d) : Flat (n + 1) (.tuple ds) :=
  ⟨by rw [PyData.canLay0]; exact layAll fun d hd => (h d hd).1, by have := depAll (n := n) fun d hd => (h d hd).2; simp only [PyData.depth]; omega⟩
theorem flat_int (n : Nat) (i : Int) : Flat n (.int i) := ⟨rfl, by simp [PyData.depth]⟩
theorem flat_str (n : Nat) (x : Str) (h : (PyData.str x).canLay0 = true := by decide +kernel) : Flat n (.str x) := ⟨h, by simp [PyData.depth]⟩
theorem flat_bl (n : Nat) (b : Bool) : Flat n (.bool b) := ⟨rfl, by simp [PyData.depth]⟩
theorem flat_non (n : Nat) : Flat n .none := ⟨rfl, by simp [PyData.depth]⟩
theorem Flat.mono {n m : Nat} {d : PyData} (h : Flat n d) (hm : n ≤ m) : Flat m d := ⟨h.1, Nat.le_trans h.2 hm⟩
theorem Flat.sh {n : Nat} {d : PyData} (h : Flat n d) (hn : n ≤ 64) : SeqAt.shaped d = true := by
  show (d.canLay0 && decide (d.depth ≤ 64)) = true
  rw [Bool.and_eq_true]
  exact ⟨h.1, decide_eq_true (Nat.le_trans h.2 hn)⟩
theorem tyx_t {K : PySem.W.Frag} {H : Hp} {a : Addr} {xs : List V} (h : SqT K H a xs) : TyX K H (.ref a) (.type "tuple") := by
  rcases h with (h | ⟨o, h⟩) | ⟨o, its, n, h, hc, _⟩
  · exact .base (.tup h)
  · exact .fTuple h
  · exact .kTuple h hc
theorem tyx_l {K : PySem.W.Frag} {H : Hp} {a : Addr} {xs : List V} (h : SqL K H a xs) : TyX K H (.ref a) (.type "list") := by
  rcases h with (h | ⟨o, h⟩) | ⟨o, its, n, h, hc, _⟩
  · exact .base (.lst h)
  · exact .base (.frz h)
  · exact .kList h hc
theorem same_both {G H : Hp} {t : Addr} {x : HO} (e : Same G H) : Same (upd G t x) (upd H t x) := fun b o h => by
  by_cases hb : b = t
  · subst hb; rw [upd_same] at h ⊢; exact h
  · rw [upd_ne hb] at h ⊢; exact e b o h
theorem set_self {α : Type} : ∀ {l : List α} {i : Nat} {x : α}, l[i]? = some x → l.set i x = l
  | [], i, x, h => by simp at h
  | a :: l, 0, x, h => by
    have e : a = x := Option.some.inj h
    subst e
    rfl
  | a :: l, i + 1, x, h => by
    show a :: l.set i x = a :: l
    rw [set_self (by simpa using h)]
theorem ixn {n j : Nat} {i : Int} (hi : i = (j : Int)) (hj : j < n) : ixN n i = some j := by
  unfold ixN
  rw [if_pos (by omega), if_pos (by omega)]
  congr 1
  omega
/-! shifts and masks in place -/
section
variable {X : Cx}
theorem ip_shr : PIp X .RShift (fun x y H Q => ∃ (i : Int) (k : Nat), x = .int i ∧ y = .int (k : Int) ∧ Q (.int (i / 2 ^ k)) H) := by
  intro pins s σ H x y v u Q I r1 r2 h
  obtain ⟨i, k, e1, e2, q⟩ := h
  subst e1; subst e2
  obtain ⟨t, rfl⟩ := r1
  obtain ⟨t', rfl⟩ := r2
  refine irshift_int (Int.natCast_nonneg k) ⟨.int _, H, I.tok _, ⟨_, rfl⟩, ?_⟩
  rw [Int.toNat_natCast, Int.fdiv_eq_ediv_of_nonneg _ (Int.le_of_lt (Int.pow_pos (by decide)))]
  exact q
theorem ip_or : PIp X .BitOr (fun x y H Q => ∃ (r a : Int) (k : Nat), x = .int r ∧ y = .int (a * 2 ^ k) ∧ (0 ≤ a ∧ 0 ≤ r ∧ r < 2 ^ k) ∧ Q (.int (r + a * 2 ^ k)) H) := by
  intro pins s σ H x y v u Q I r1 r2 h
  obtain ⟨r, a, k, e1, e2, ⟨h0, h1, h2⟩, q⟩ := h
  subst e1; subst e2
  obtain ⟨t, rfl⟩ := r1
  obtain ⟨t', rfl⟩ := r2
  refine ior_int ⟨.int _, H, I.tok _, ⟨_, rfl⟩, ?_⟩
  have e : Builtin.bitOr r (a * 2 ^ k) = r + a * 2 ^ k := by
    have hp : (0 : Int) ≤ a * 2 ^ k := Int.mul_nonneg h0 (Int.le_of_lt (Int.pow_pos (by decide)))
    rw [bitOr_nn h1 hp, Nat.or_comm, ← bitOr_nn hp h1, or_low h0 h1 h2, Int.add_comm]
  rw [e]
  exact q
end
theorem bits_small : ∀ n : Nat, n < 128 → Builtin.Int.intBits (n : Int) ≤ 8 := by decide +kernel
/-- isinstance(e, c) of the error that a suite holds, its class known by the reading -/
theorem call_isE1 {X : Cx} {a D : Addr} {oe : Obj} {cls : Value} {d : Option Addr} {pn : List (Addr × Obj)} (C : ExcC X.K D) (hz : Zc cls d oe) (hf : ∃ vs, oe.data = .fields vs) :
    CallR (X.suite a ((a, oe) :: pn)) (.builtin "isinstance") (fun xs H Q => cls = .ref D ∧ d = none ∧ rIsE X.K D a xs H Q) := fun pins s σ H xs us Q I r h => by
  obtain ⟨h1, h2, h⟩ := h
  subst h1
  subst h2
  exact call_isE C hz hf pins s σ H xs us Q I r h
/-! slices -/
theorem sIx_le {n d : Nat} {i : Nat} : HT.sIx n d (some (i : Int)) = min i n := HT.sIx_nat n d i
theorem cut0n (xs : List V) (j : Nat) : cutV xs none (some (j : Int)) = xs.take j := by
  unfold cutV
  rw [sIx_le, HT.sIx_none, List.drop_zero, Nat.sub_zero]
  exact (List.take_eq_take_min).symm
theorem cutnn (xs : List V) (i j : Nat) : cutV xs (some (i : Int)) (some (j : Int)) = (xs.drop i).take (j - i) := by
  unfold cutV
  rw [sIx_le, sIx_le]
  by_cases hi : i ≤ xs.length
  · rw [Nat.min_eq_left hi]
    by_cases hj : j ≤ xs.length
    · rw [Nat.min_eq_left hj]
    · rw [Nat.min_eq_right (by omega), List.take_of_length_le (by rw [List.length_drop]; omega), List.take_of_length_le (by rw [List.length_drop]; omega)]
  · have e : min i xs.length = xs.length := by omega
    rw [e, List.drop_of_length_le (Nat.le_refl _), List.drop_of_length_le (show xs.length ≤ i by omega), List.take_nil, List.take_nil]
theorem cut_ints (ns : List Int) {i j : Nat} {a b : Int} (ha : a = i) (hb : b = j) : cutV (ns.map V.int) (some a) (some b) = ((ns.drop i).take (j - i)).map V.int := by
  rw [ha, hb, cutnn, ← List.map_drop, ← List.map_take]
theorem rep_ints (ns : List Int) (k : Nat) : (List.replicate k (ns.map V.int)).flatten = (List.replicate k ns).flatten.map V.int := by
  rw [List.map_flatten, List.map_replicate]
/-- [e for x in a slice], e changes nothing -/
theorem lc_cut {K : PySem.W.Frag} {wi : TI} {te : TE} {s : Nat} {σ : L2.St} {H : Hp} {Q : VK} (xs : List V) (f : V → V)
    (hwi : ∀ R : It → Hp → Prop, (∀ p, H p = none → R (Itl K p) (upd H p (.lst xs))) → wi σ H R) (hlen : xs.length ≤ 90000)
    (hw : ∀ x, wipe ((wipe σ [s]).set s (some x)) [s] = wipe σ [s])
    (he : ∀ (i : Nat) (x : V) (G : Hp) (Q' : VK), xs[i]? = some x → Same H G → Q' (f x) G → te ((wipe σ [s]).set s (some x)) G Q')
    (k : ∀ D H', H D = none → Same H H' → H' D = some (.lst (xs.map f)) → Q (.ref D) H') : tLc wi (gName s) tYes te [s] σ H Q := by
  refine hwi _ fun p hp D hD => ?_
  have nD : D ≠ p := fun z => by rw [z, upd_same] at hD; cases hD
  have hD0 : H D = none := by rw [upd_ne nD] at hD; exact hD
  refine lc_list (K := K) (a := p) (xs := xs) (fun i H' => Same H H' ∧ H' p = some (.lst xs) ∧ H' D = some (.lst ((xs.take i).map f)))
    ⟨(same_upd hp).trans (same_upd hD), by rw [upd_ne nD.symm, upd_same], by rw [upd_same]; rfl⟩ (fun i H' _ h => sql h.2.1) (fun i x G hx hG => ?_) (fun G hG => ?_)
  · refine ⟨hw x, ?_⟩
    refine he i x G _ hx hG.1 ⟨_, hG.2.2, szl (by rw [List.length_map, List.length_take]; omega), same_put hG.1 hD0, by rw [upd_ne nD.symm]; exact hG.2.1, ?_⟩
    rw [upd_same, take_more hx, List.map_append]
    rfl
  · refine k D G hD0 hG.1 ?_
    rw [List.take_length] at hG
    exact hG.2.2
/-- lists of ints as data -/
theorem dpa_ints {K : PySem.W.Frag} {H : Hp} : ∀ ns : List Int, DpAll K H (ns.map V.int) (ns.map PyData.int)
  | [] => .nil
  | n :: ns => .cons (.int n) (dpa_ints ns)
theorem dp_ints {K : PySem.W.Frag} {H : Hp} {a : Addr} {ns : List Int} (h : SqL K H a (ns.map V.int)) : Dp K H (.ref a) (.list (ns.map PyData.int)) := .lst h (dpa_ints ns)
theorem flat_ints (ns : List Int) : Flat 1 (.list (ns.map PyData.int)) := flat_list (n := 0) fun d hd => by
  obtain ⟨i, _, rfl⟩ := List.mem_map.mp hd
  exact flat_int _ _
theorem flat_tints (ns : List Int) : Flat 1 (.tuple (ns.map PyData.int)) := flat_tup (n := 0) fun d hd => by
  obtain ⟨i, _, rfl⟩ := List.mem_map.mp hd
  exact flat_int _ _
theorem eqvAll_ints : ∀ xs ys : List Int, PyData.eqvAll (xs.map .int) (ys.map .int) = decide (xs = ys)
  | [], [] => rfl
  | [], _ :: _ => rfl
  | _ :: _, [] => rfl
  | x :: xs, y :: ys => by
    show ((x == y) && PyData.eqvAll (xs.map .int) (ys.map .int)) = _
    rw [eqvAll_ints xs ys, Bool.eq_iff_iff]
    simp
theorem eqv_ints (xs ys : List Int) : PyData.eqv (.list (xs.map .int)) (.list (ys.map .int)) = decide (xs = ys) := eqvAll_ints xs ys
theorem eqv_tints (xs ys : List Int) : PyData.eqv (.tuple (xs.map .int)) (.tuple (ys.map .int)) = decide (xs = ys) := eqvAll_ints xs ys
/-- a def with defaults that lets nothing out -/
theorem okD {P : Program} {w : World} {K : PySem.W.Frag} {mg : Str → Option Value} {base : Heap} {x qual : Str} {params : Arguments} {body : List Stmt} {scope : Scope} {dvs : List V} {kws : List (Str × V)} {f : Addr} {fd : FuncData} {N ps : List Str} {k : Nat} {sp : Sp}
    (F : FunD K x qual params body scope dvs kws f fd) (S : FnScope N ps scope) (len : ∀ vs H Q E, sp vs H Q E → vs.length = ps.length)
    (hb : ∀ (cdv : Value) (A : Around) (outer : List Env) (s : Shared) (H : Hp) (vs : List V) (Q : VK) (E : XK), Room k (A.deeper (envOfC qual scope s.heap.objs.size f cdv)) → sp vs H Q E →
      ∃ t, PSs (cxOf CX0 P w K mg base N qual scope f cdv A outer s H E).nox body t ∧ t { nx := fun _ H' => Q .non H', rt := Q } (start N vs) H) : FnOk P w K mg base CX0 (k + 1) f fd ps sp :=
  F.ok S len fun cdv A outer s H vs Q E hr h => by
    obtain ⟨t, h1, q⟩ := hb cdv A outer s H vs Q E hr h
    exact ⟨t, h1.nox, q⟩
/-! what an expression gives, whatever stands besides -/
def EI (te : TE) (σ : L2.St) (H : Hp) (v : V) : Prop := ∀ G, Same H G → ∀ Q : VK, Q v G → te σ G Q
def EA (ta : TA) (σ : L2.St) (H : Hp) (vs : List V) : Prop := ∀ G, Same H G → ∀ Q : List V → Hp → Prop, Q vs G → ta σ G Q
/-- a list, new or old -/
def EL (te : TE) (σ : L2.St) (H : Hp) (xs : List V) : Prop := ∀ G, Same H G → ∀ Q : VK, (∀ p G', Same G G' → G' p = some (.lst xs) → Q (.ref p) G') → te σ G Q
section
variable {K : PySem.W.Frag} {σ : L2.St} {H : Hp} {ta tb te : TE} {x y z v : V} {xs ys : List V}
theorem ei_var {i : Nat} (h : σ[i]? = some (some v)) : EI (tVar i) σ H v := fun _ _ _ q => ⟨v, h, q⟩
theorem ei_c : EI (tC v) σ H v := fun _ _ _ q => q
theorem ei_op {r : R2} (ha : EI ta σ H x) (hb : EI tb σ H y) (hr : ∀ G, Same H G → ∀ Q : VK, Q z G → r x y G Q) : EI (tOp r ta tb) σ H z := fun G s Q q => ha G s _ (hb G s _ (hr G s Q q))
theorem ei_i0 {g : Int → Int → V} {i j : Int} (ha : EI ta σ H (.int i)) (hb : EI tb σ H (.int j)) : EI (tOp (rI0 g) ta tb) σ H (g i j) := ei_op ha hb fun _ _ _ q => ⟨i, j, rfl, rfl, q⟩
theorem ei_ic {C : Int → Int → Prop} {g : Int → Int → V} {i j : Int} (ha : EI ta σ H (.int i)) (hb : EI tb σ H (.int j)) (hc : C i j) : EI (tOp (rI C g) ta tb) σ H (g i j) := ei_op ha hb fun _ _ _ q => ⟨i, j, rfl, rfl, hc, q⟩
theorem ea_nil : EA tNil σ H [] := fun _ _ _ q => q
theorem ea_cons {tr : TA} {vs : List V} (h : EI ta σ H x) (g : EA tr σ H vs) : EA (tCons ta tr) σ H (x :: vs) := fun G s _ q => h G s _ (g G s _ q)
theorem ei_cb {r : List V → Hp → VK → Prop} {tr : TA} {vs : List V} (ha : EA tr σ H vs) (hr : ∀ G, Same H G → ∀ Q : VK, Q z G → r vs G Q) : EI (tCB r tr) σ H z := fun G s Q q => ha G s _ (hr G s Q q)
/-- len of a list, list(..) of a list or a tuple, as they are read -/
def rLen (K : PySem.W.Frag) : List V → Hp → VK → Prop := fun xs H Q => ∃ p ys, xs = [.ref p] ∧ (SqL K H p ys ∨ SqT K H p ys) ∧ Q (.int ys.length) H
def rLst (K : PySem.W.Frag) : List V → Hp → VK → Prop := fun xs H Q => ∃ p ys, xs = [.ref p] ∧ (SqL K H p ys ∨ SqT K H p ys) ∧ ∀ l, H l = none → Q (.ref l) (upd H l (.lst ys))
def rTup (K : PySem.W.Frag) : List V → Hp → VK → Prop := fun xs H Q => ∃ p ys, xs = [.ref p] ∧ ((SqL K H p ys ∧ ∀ l, H l = none → Q (.ref l) (upd H l (.tup ys))) ∨ (SqT K H p ys ∧ Q (.ref p) H))
theorem callK_tuple {X : Cx} (h : X.K = K) : CallR X (.type "tuple") (rTup K) := by subst h; exact call_tuple_of
theorem callK_list {X : Cx} (h : X.K = K) : CallR X (.type "list") (rLst K) := by subst h; exact call_list_of
theorem opK_catA {X : Cx} (h : X.K = K) : OpR X (binaryOp .Add) (rCatA K) := by subst h; exact op_catA
theorem ixK_list {X : Cx} (h : X.K = K) : IxR X (rIxL K) := by subst h; exact ix_list
theorem ixK_tup {X : Cx} (h : X.K = K) : IxR X (rIxT K) := by subst h; exact ix_tup
theorem pe_fldK {X : Cx} {e : Expr} {f : Str} {pos : Pos} {ta : TE} (h : X.K = K) (he : PE X e ta) (hb : attributeBase e f X.env (eval e X.env) = eval e X.env) : PE X (.Attribute e f pos) (tFld K ta f) := by subst h; exact pe_fld he hb
theorem callK_len {X : Cx} (h : X.K = K) : CallR X (.builtin "len") (rLen K) := by subst h; exact call_len_seq
theorem ei_lenL {i : Nat} {p : Addr} (h : σ[i]? = some (some (.ref p))) (e : SqL K H p xs) : EI (tCB (rLen K) (tCons (tVar i) tNil)) σ H (.int (xs.length : Int)) := ei_cb (ea_cons (ei_var h) ea_nil) fun _ s _ q => ⟨p, xs, rfl, .inl (s.seq e), q⟩
theorem ei_lenT {i : Nat} {p : Addr} (h : σ[i]? = some (some (.ref p))) (e : SqT K H p xs) : EI (tCB (rLen K) (tCons (tVar i) tNil)) σ H (.int (xs.length : Int)) := ei_cb (ea_cons (ei_var h) ea_nil) fun _ s _ q => ⟨p, xs, rfl, .inr (sqt_same s e), q⟩
theorem ei_fld {i : Nat} {p C dx : Addr} {fs : List (Str × V)} {f : Str} (h : σ[i]? = some (some (.ref p))) (hp : H p = some (.ins C dx fs)) (c : Cls K C) (n : NoAttr K C f) (l : fs.lookup f = some v) : EI (tFld K (tVar i) f) σ H v := fun _ s _ q => ⟨.ref p, h, p, C, dx, fs, v, rfl, s _ _ hp, c, n, l, q⟩
theorem ei_din {td : TE} {d : Addr} {kvs : List (Key × V)} {k : Key} (hy : EI te σ H (kV k)) (hd : EI td σ H (.ref d)) (e : H d = some (.dK kvs)) : EI (tDIn te td) σ H (.bl (valV kvs k).isSome) := fun G s _ q => hy G s _ (hd G s _ ⟨d, _, rfl, DGet.k (s _ _ e), q⟩)
theorem ei_dnotin {td : TE} {d : Addr} {kvs : List (Key × V)} {k : Key} (hy : EI te σ H (kV k)) (hd : EI td σ H (.ref d)) (e : H d = some (.dK kvs)) : EI (tDNotIn te td) σ H (.bl (!(valV kvs k).isSome)) := fun G s _ q => hy G s _ (hd G s _ ⟨d, _, rfl, DGet.k (s _ _ e), q⟩)
theorem ei_dget {td : TE} {d : Addr} {kvs : List (Key × V)} {k : Key} (hy : EI te σ H (kV k)) (hd : EI td σ H (.ref d)) (e : H d = some (.dK kvs)) (hv : valV kvs k = some v) : EI (tDGet td te) σ H v := fun G s _ q => hd G s _ (hy G s _ ⟨d, v, rfl, by rw [← hv]; exact DGet.k (s _ _ e), q⟩)
theorem ei_ixL {p : Addr} {j : Int} (ha : EI ta σ H (.ref p)) (hi : EI tb σ H (.int j)) (e : SqL K H p xs) (h : atI xs j = some v) : EI (tOp (rIxL K) ta tb) σ H v := ei_op ha hi fun _ s _ q => ⟨p, xs, j, v, rfl, rfl, s.seq e, h, q⟩
theorem ei_ixT {p : Addr} {j : Int} (ha : EI ta σ H (.ref p)) (hi : EI tb σ H (.int j)) (e : SqT K H p xs) (h : atI xs j = some v) : EI (tOp (rIxT K) ta tb) σ H v := ei_op ha hi fun _ s _ q => ⟨p, xs, j, v, rfl, rfl, sqt_same s e, h, q⟩
theorem ei_eq (ha : EI ta σ H x) (hb : EI tb σ H y) (h : scal x y = true) : EI (tOp rEq ta tb) σ H (.bl (decide (x = y))) := ei_op ha hb fun _ _ _ q => ⟨h, q⟩
theorem ei_ne (ha : EI ta σ H x) (hb : EI tb σ H y) (h : scal x y = true) : EI (tOp rNe ta tb) σ H (.bl (!decide (x = y))) := ei_op ha hb fun _ _ _ q => ⟨h, q⟩
/-- a test by its value -/
theorem tt_use {b : Bool} {Q : Bool → Hp → Prop} (h : EI te σ H (.bl b)) (k : Q b H) : tTest te σ H Q := h H (Same.refl _) _ ⟨b, rfl, k⟩
theorem tb_use {b : Bool} {Q : Bool → Hp → Prop} (h : EI te σ H (.bl b)) (k : Q b H) : tB te σ H Q := h H (Same.refl _) _ ⟨b, rfl, k⟩
theorem el_var {i : Nat} {p : Addr} (h : σ[i]? = some (some (.ref p))) (e : H p = some (.lst xs)) : EL (tVar i) σ H xs := fun G s _ q => ⟨.ref p, h, q p G (Same.refl _) (s _ _ e)⟩
/-- a new list -/
def EN (te : TE) (σ : L2.St) (H : Hp) (xs : List V) : Prop := ∀ G, Same H G → ∀ Q : VK, (∀ p G', G p = none → Same G G' → G' p = some (.lst xs) → Q (.ref p) G') → te σ G Q
theorem EN.el (h : EN te σ H xs) : EL te σ H xs := fun G s Q q => h G s Q fun p G' _ => q p G'
theorem en_lst {tr : TA} {vs : List V} (ha : EA tr σ H vs) (hl : vs.length ≤ 90000) : EN (tLst tr) σ H vs := fun G s _ q => ha G s _ ⟨sz (by omega), fun p hp => q p _ hp (same_upd hp) upd_same⟩
theorem en_cat (ha : EL ta σ H xs) (hb : EL tb σ H ys) (hl : xs.length + ys.length ≤ 90000) : EN (tOp rCat ta tb) σ H (xs ++ ys) := fun G s _ q =>
  ha G s _ fun p G1 s1 e1 => hb G1 (s.trans s1) _ fun p2 G2 s2 e2 => ⟨p, p2, xs, ys, rfl, rfl, s2 _ _ e1, e2, sz (by omega), fun p3 h3 => q p3 _ ((s1.trans s2).free h3) ((s1.trans s2).trans (same_upd h3)) upd_same⟩
theorem en_rep {k : Int} (ha : EL ta σ H xs) (hb : EI tb σ H (.int k)) (h1 : -1000000 ≤ k) (h2 : k ≤ 1000000) (hl : xs.length * k.toNat ≤ 90000) : EN (tOp rRep ta tb) σ H (List.replicate k.toNat xs).flatten := fun G s _ q =>
  ha G s _ fun p G1 s1 e1 => hb G1 (s.trans s1) _ ⟨p, k, xs, rfl, rfl, e1, by omega, by omega, sz (by omega), fun p3 h3 => q p3 _ (s1.free h3) (s1.trans (same_upd h3)) upd_same⟩
theorem el_lst {tr : TA} {vs : List V} (ha : EA tr σ H vs) (hl : vs.length ≤ 90000) : EL (tLst tr) σ H vs := (en_lst ha hl).el
theorem el_cat (ha : EL ta σ H xs) (hb : EL tb σ H ys) (hl : xs.length + ys.length ≤ 90000) : EL (tOp rCat ta tb) σ H (xs ++ ys) := (en_cat ha hb hl).el
theorem el_rep {k : Int} (ha : EL ta σ H xs) (hb : EI tb σ H (.int k)) (h1 : -1000000 ≤ k) (h2 : k ≤ 1000000) (hl : xs.length * k.toNat ≤ 90000) : EL (tOp rRep ta tb) σ H (List.replicate k.toNat xs).flatten := (en_rep ha hb h1 h2 hl).el
theorem el_cb {r : List V → Hp → VK → Prop} {tr : TA} {vs : List V} (ha : EA tr σ H vs) (hr : ∀ G, Same H G → ∀ Q : VK, (∀ p G', Same G G' → G' p = some (.lst xs) → Q (.ref p) G') → r vs G Q) : EL (tCB r tr) σ H xs := fun G s Q q => ha G s _ (hr G s Q q)
theorem el_call {sp : Sp} {dvs : List V} {E : XK} {tr : TA} {vs : List V} (ha : EA tr σ H vs) (hr : ∀ G, Same H G → ∀ Q : VK, (∀ p G', Same G G' → G' p = some (.lst xs) → Q (.ref p) G') → sp (vs ++ dvs) G Q E) : EL (tCall sp dvs E tr) σ H xs := fun G s Q q => ha G s _ (hr G s Q q)
theorem el_listL {i : Nat} {p : Addr} (h : σ[i]? = some (some (.ref p))) (e : SqL K H p xs) : EL (tCB (rLst K) (tCons (tVar i) tNil)) σ H xs := el_cb (ea_cons (ei_var h) ea_nil) fun _ s _ q => ⟨p, xs, rfl, .inl (s.seq e), fun l hl => q l _ (same_upd hl) upd_same⟩
theorem el_listT {i : Nat} {p : Addr} (h : σ[i]? = some (some (.ref p))) (e : SqT K H p xs) : EL (tCB (rLst K) (tCons (tVar i) tNil)) σ H xs := el_cb (ea_cons (ei_var h) ea_nil) fun _ s _ q => ⟨p, xs, rfl, .inr (sqt_same s e), fun l hl => q l _ (same_upd hl) upd_same⟩
/-- x = an expression that gives a list -/
theorem EL.use {Q : VK} (h : EL te σ H xs) (k : ∀ p H', Same H H' → H' p = some (.lst xs) → Q (.ref p) H') : te σ H Q := h H (Same.refl _) Q k
theorem EN.use {Q : VK} (h : EN te σ H xs) (k : ∀ p H', H p = none → Same H H' → H' p = some (.lst xs) → Q (.ref p) H') : te σ H Q := h H (Same.refl _) Q k
theorem EI.use {Q : VK} (h : EI te σ H v) (k : Q v H) : te σ H Q := h H (Same.refl _) Q k
end
/-- defaults: what is bound where keywords give the rest -/
theorem kb_one {K : PySem.W.Frag} {x qual : Str} {params : Arguments} {body : List Stmt} {scope : Scope} {dvs : List V} {f : Addr} {fd : FuncData} {ps : List Str} (F : FunD K x qual params body scope dvs [] f fd) (n : Nat) (ks : List Str) (hd : dvs ≠ [])
    (h : ∀ (T : Addr) (kV doc pm : Value) (an : Option Addr) (cdv ct : Value) (us ws its : List Value), us.length = n → ws.length = ks.length → its.length = dvs.length →
      ∃ k, bindArgs (PySem.W.fnOf x qual params body scope (.ref T) kV doc pm an cdv ct) ⟨us, ks.zip ws⟩ = seqItems? (.ref T) >>= k ∧ k (some its.toArray) = pure (ps.zip (us ++ ws))) :
    KBn K fd ps n ks (fun us ws => us ++ ws) (fun vs zs => vs ++ zs) := by
  obtain ⟨oc, od, dV, kV, doc, pm, an, cdv, ct, osl, rfl, lk, hcd, hD, hK⟩ := F.ex
  rcases hD with ⟨e, _⟩ | ⟨_, T, o, its, m, rfl, lT, oT, rT⟩
  · exact absurd e hd
  · refine ⟨fun s us ws X h1 h2 => BindsTo.of_looks fun M => ?_, fun r1 r2 => r1.append r2⟩
    obtain ⟨k, e1, e2⟩ := h T kV doc pm an cdv ct us ws its h1 h2 rT.length.symm
    rw [e1]
    exact looks_items X lT oT (.of_pure e2)
theorem andV_use {ta tb : TE} {σ : L2.St} {H : Hp} {Q : VK} {x y : Bool} (h1 : EI ta σ H (.bl x)) (h2 : x = true → ∀ Q' : VK, (∀ H', Same H H' → Q' (.bl y) H') → tb σ H Q') (k : ∀ H', Same H H' → Q (.bl (x && y)) H') : tAndV ta tb σ H Q := by
  refine h1 H (Same.refl _) _ ⟨x, rfl, ?_⟩
  cases x with
  | true => exact (if_pos rfl).mpr (h2 rfl _ k)
  | false => exact (if_neg Bool.false_ne_true).mpr (k H (Same.refl _))
/-- what is locked and let go stands as it stood -/
theorem unlock {H H' : Hp} {d : Addr} {od : Obj} {u : HO} (e : H d = some u) (s : Same (upd H d (.frz od u)) H') : Same H (upd H' d u) := fun b o h => by
  by_cases hb : b = d
  · subst hb
    rw [upd_same, ← e]
    exact h
  · rw [upd_ne hb]
    exact s b o (by rw [upd_ne hb]; exact h)
theorem take_filter {α : Type} {l : List α} {i : Nat} {x : α} (f : α → Bool) (h : l[i]? = some x) : (l.take (i + 1)).filter f = (l.take i).filter f ++ if f x then [x] else [] := by
  rw [take_more h, List.filter_append]
  cases e : f x <;> simp [e]
/-- [e for k in d if t] over the keys of a dict, t and e change nothing -/
theorem lc_keys {td te : TE} {tt : TT} {s : Nat} {σ : L2.St} {H : Hp} {Q : VK} (d : Addr) (kvs : List (Key × V)) (f : Key → Bool) (g : Key → V) (e : H d = some (.dK kvs)) (hlen : kvs.length ≤ 90000)
    (htd : ∀ od, EI td σ (upd H d (.frz od (.dK kvs))) (.ref d))
    (hw : ∀ x, wipe ((wipe σ [s]).set s (some x)) [s] = wipe σ [s])
    (ht : ∀ (od : Obj) (i : Nat) (k : Key) (v : V) (G : Hp) (Q' : Bool → Hp → Prop), kvs[i]? = some (k, v) → Same (upd H d (.frz od (.dK kvs))) G → Q' (f k) G → tt ((wipe σ [s]).set s (some (kV k))) G Q')
    (he : ∀ (od : Obj) (i : Nat) (k : Key) (v : V) (G : Hp) (Q' : VK), kvs[i]? = some (k, v) → Same (upd H d (.frz od (.dK kvs))) G → Q' (g k) G → te ((wipe σ [s]).set s (some (kV k))) G Q')
    (k : ∀ D H', H D = none → Same H H' → H' D = some (.lst ((kvs.filter fun kv => f kv.1).map fun kv => g kv.1)) → Q (.ref D) H') : tLockE (tLc (iKeys td) (gName s) tt te [s]) σ H Q := by
  refine ⟨d, _, e, trivial, fun od => htd od _ (Same.refl _) _ ⟨d, od, rfl, .inl ⟨kvs, upd_same, fun D hD => ?_⟩⟩⟩
  have nD : D ≠ d := fun z => by rw [z, upd_same] at hD; cases hD
  have hD0 : H D = none := by rw [upd_ne nD] at hD; exact hD
  refine lc_it walk_keys (fun i G => Same (upd H d (.frz od (.dK kvs))) G ∧ G D = some (.lst (((kvs.take i).filter fun kv => f kv.1).map fun kv => g kv.1)))
    ⟨same_upd hD, upd_same⟩ (fun i G _ h => h.1 _ _ upd_same) (fun i x G G' hi hG hy => ?_) (fun G hG => ?_)
  · obtain ⟨rfl, key, v, hkv, rfl⟩ := hy
    have hfl : ((kvs.take i).filter fun kv => f kv.1).length ≤ 90000 := Nat.le_trans (List.length_filter_le _ _) (by rw [List.length_take]; omega)
    refine ⟨hw _, ht od i key v _ _ hkv hG.1 ?_⟩
    have hts := take_filter (fun kv : Key × V => f kv.1) hkv
    cases hf : f key with
    | true =>
      refine (if_pos rfl).mpr (he od i key v _ _ hkv hG.1 ⟨_, hG.2, szl (by rw [List.length_map]; omega), same_put hG.1 hD, ?_⟩)
      rw [upd_same, hts, List.map_append]
      simp only [hf, if_true]
      rfl
    | false =>
      refine (if_neg Bool.false_ne_true).mpr ⟨hG.1, ?_⟩
      rw [hts]
      simp only [hf, Bool.false_eq_true, if_false, List.append_nil]
      exact hG.2
  · rw [List.take_length] at hG
    refine ⟨hG.1 _ _ upd_same, k D _ hD0 (unlock e hG.1) ?_⟩
    rw [upd_ne nD]
    exact hG.2
theorem put_fresh {kvs : List (Key × V)} {k : Key} {v : V} (h : ∀ kv ∈ kvs, kv.1 ≠ k) : putK kvs k v = kvs ++ [(k, v)] := by
  unfold putK
  rw [if_neg]
  intro z
  obtain ⟨kv, hm, hk⟩ := List.any_eq_true.mp z
  exact h kv hm (of_decide_eq_true hk)
theorem nd_ne {α β : Type} {l : List (α × β)} {i : Nat} {x : α × β} (nd : (l.map (·.1)).Nodup) (h : l[i]? = some x) : ∀ y ∈ l.take i, y.1 ≠ x.1 := fun y hy z => by
  obtain ⟨j, hj, rfl⟩ := List.getElem_of_mem hy
  rw [List.length_take] at hj
  rw [List.getElem_take] at z
  obtain ⟨hi, rfl⟩ := List.getElem?_eq_some_iff.mp h
  have e1 : (l.map (·.1))[j]? = some l[i].1 := by rw [List.getElem?_map, List.getElem?_eq_getElem (by omega), ← z]; rfl
  have e2 : (l.map (·.1))[i]? = some l[i].1 := by rw [List.getElem?_map, List.getElem?_eq_getElem hi]; rfl
  have := nd_ix nd e1 e2
  omega
/-- {k: e for k in d if t} over the keys of a dict -/
theorem dc_keys {td tv : TE} {tt : TT} {s : Nat} {σ : L2.St} {H : Hp} {Q : VK} (d : Addr) (kvs : List (Key × V)) (f : Key → Bool) (g : Key × V → V) (e : H d = some (.dK kvs)) (hlen : kvs.length ≤ 90000) (nd : (kvs.map (·.1)).Nodup)
    (htd : ∀ od, EI td σ (upd H d (.frz od (.dK kvs))) (.ref d))
    (hw : ∀ x, wipe ((wipe σ [s]).set s (some x)) [s] = wipe σ [s])
    (ht : ∀ (od : Obj) (i : Nat) (k : Key) (v : V) (G : Hp) (Q' : Bool → Hp → Prop), kvs[i]? = some (k, v) → Same (upd H d (.frz od (.dK kvs))) G → Q' (f k) G → tt ((wipe σ [s]).set s (some (kV k))) G Q')
    (he : ∀ (od : Obj) (i : Nat) (k : Key) (v : V) (G : Hp) (Q' : VK), kvs[i]? = some (k, v) → f k = true → Same (upd H d (.frz od (.dK kvs))) G → Q' (g (k, v)) G → tv ((wipe σ [s]).set s (some (kV k))) G Q')
    (hn : ∀ i, (wipe σ [s]).length = i → s < i)
    (k : ∀ D H', H D = none → Same H H' → H' D = some (.dK ((kvs.filter fun kv => f kv.1).map fun kv => (kv.1, g kv))) → Q (.ref D) H') : tLockE (tDc (iKeys td) (gName s) tt (tVar s) tv [s]) σ H Q := by
  have hs : s < (wipe σ [s]).length := hn _ rfl
  refine ⟨d, _, e, trivial, fun od => htd od _ (Same.refl _) _ ⟨d, od, rfl, .inl ⟨kvs, upd_same, fun D hD => ?_⟩⟩⟩
  have nD : D ≠ d := fun z => by rw [z, upd_same] at hD; cases hD
  have hD0 : H D = none := by rw [upd_ne nD] at hD; exact hD
  let Pv : Nat → Hp → Prop := fun i G => Same (upd H d (.frz od (.dK kvs))) G ∧ G D = some (.dK (((kvs.take i).filter fun kv => f kv.1).map fun kv => (kv.1, g kv)))
  have step : ∀ i x G G', i < kvs.length → Pv i G → (G' = G ∧ ∃ k v, kvs[i]? = some (k, v) ∧ x = kV k) → gName s x (wipe σ [s]) G' fun σ2 H2 => wipe σ2 [s] = wipe σ [s] ∧ tt σ2 H2 fun b H3 =>
      if b = true then tVar s σ2 H3 fun y H4 => tv σ2 H4 fun z H5 => ∃ kvs' k', y = kV k' ∧ H5 D = some (.dK kvs') ∧ kvs'.length < sizeLine ∧ Pv (i + 1) (upd H5 D (.dK (putK kvs' k' z))) else Pv (i + 1) H3 := fun i x G G' hi hG hy => by
    obtain ⟨rfl, key, v, hkv, rfl⟩ := hy
    have hfl : ((kvs.take i).filter fun kv => f kv.1).length ≤ 90000 := Nat.le_trans (List.length_filter_le _ _) (by rw [List.length_take]; omega)
    refine ⟨hw _, ht od i key v _ _ hkv hG.1 ?_⟩
    have hts := take_filter (fun kv : Key × V => f kv.1) hkv
    cases hf : f key with
    | true =>
      refine (if_pos rfl).mpr ⟨kV key, by rw [List.getElem?_set_self hs], he od i key v _ _ hkv hf hG.1 ⟨_, key, rfl, hG.2, szl (by rw [List.length_map]; omega), same_put hG.1 hD, ?_⟩⟩
      rw [upd_same, hts, List.map_append, put_fresh]
      · simp only [hf, if_true]
        rfl
      · intro kv hm
        obtain ⟨y, hy, rfl⟩ := List.mem_map.mp hm
        exact nd_ne nd hkv y (List.mem_filter.mp hy).1
    | false =>
      refine (if_neg Bool.false_ne_true).mpr ⟨hG.1, ?_⟩
      rw [hts]
      simp only [hf, Bool.false_eq_true, if_false, List.append_nil]
      exact hG.2
  refine ⟨fun i m G => m = kvs.length - i ∧ i ≤ kvs.length ∧ Pv i G, ⟨kvs.length, by simp, Nat.zero_le _, same_upd hD, upd_same⟩, ?_⟩
  rintro i m G ⟨rfl, hi, hP⟩
  by_cases hlt : i < kvs.length
  · exact .inr ⟨⟨hP.1 _ _ upd_same, hlt⟩, Pv (i + 1), fun G' p' => ⟨kvs.length - (i + 1), by omega, rfl, hlt, p'⟩, fun x G' y => step i x G G' hlt hP y⟩
  · have ei : i = kvs.length := by omega
    subst ei
    obtain ⟨h1, h2⟩ := hP
    rw [List.take_length] at h2
    refine .inl ⟨⟨h1 _ _ upd_same, Nat.le_refl _⟩, h1 _ _ upd_same, k D _ hD0 (unlock e h1) ?_⟩
    rw [upd_ne nD]
    exact h2
end My
local macro_rules | `(tactic| walk_at "go") => `(tactic| try dsimp only [L2.gName, L2.tSeq, L2.tAsg, L2.tNext, L2.tDrop])
namespace My
open PySem PySem.Spec PyProof.Rows L2
def topS (i : Nat) : Stmt := PySem.Challenge.pw_majordomo_k07_sectors.main.body.getD i (.Pass ⟨0, 0, 0, 0⟩)
abbrev s_checksum : Stmt := (topS 2)
theorem sc_checksum : FnScope ["row", "start", "first", "second", "byte"] ["row", "start"] (defScope s_checksum) := ⟨rfl, rfl, rfl, by decide +kernel, rfl, by decide +kernel, by decide +kernel⟩
abbrev s_check_bytes : Stmt := (topS 3)
theorem sc_check_bytes : FnScope ["pair", "first", "second"] ["pair"] (defScope s_check_bytes) := ⟨rfl, rfl, rfl, by decide +kernel, rfl, by decide +kernel, by decide +kernel⟩
abbrev s_make_sector : Stmt := (topS 17)
theorem sc_make_sector : FnScope ["kind", "payload", "body"] ["kind", "payload"] (defScope s_make_sector) := ⟨rfl, rfl, rfl, by decide +kernel, rfl, by decide +kernel, by decide +kernel⟩
abbrev s_read_sector : Stmt := (topS 18)
theorem sc_read_sector : FnScope ["sector", "body", "kind", "length", "filling"] ["sector"] (defScope s_read_sector) := ⟨rfl, rfl, rfl, by decide +kernel, rfl, by decide +kernel, by decide +kernel⟩
abbrev s__law_is_integer : Stmt := (topS 20)
theorem sc__law_is_integer : FnScope ["actual"] ["actual"] (defScope s__law_is_integer) := ⟨rfl, rfl, rfl, by decide +kernel, rfl, by decide +kernel, by decide +kernel⟩
abbrev s__law_draws : Stmt := (topS 21)
theorem sc__law_draws : FnScope ["script", "many", "draws", "mixed", "k", "cell", "rest", "turn"] ["script", "many"] (defScope s__law_draws) := ⟨rfl, rfl, rfl, by decide +kernel, rfl, by decide +kernel, by decide +kernel⟩
abbrev s__law_sector : Stmt := (topS 22)
theorem sc__law_sector : FnScope ["body", "first", "second", "byte"] ["body"] (defScope s__law_sector) := ⟨rfl, rfl, rfl, by decide +kernel, rfl, by decide +kernel, by decide +kernel⟩
abbrev s__law_damaged : Stmt := (topS 23)
theorem sc__law_damaged : FnScope ["row", "found", "e"] ["row"] (defScope s__law_damaged) := ⟨rfl, rfl, rfl, by decide +kernel, rfl, by decide +kernel, by decide +kernel⟩
abbrev s__law_read_back : Stmt := (topS 24)
theorem sc__law_read_back : FnScope ["sector", "kind", "payload", "found", "k"] ["sector", "kind", "payload"] (defScope s__law_read_back) := ⟨rfl, rfl, rfl, by decide +kernel, rfl, by decide +kernel, by decide +kernel⟩
abbrev s__law_wrong_bodies : Stmt := (topS 25)
theorem sc__law_wrong_bodies : FnScope ["kind", "payload", "draw", "size", "rest", "bodies"] ["kind", "payload", "draw"] (defScope s__law_wrong_bodies) := ⟨rfl, rfl, rfl, by decide +kernel, rfl, by decide +kernel, by decide +kernel⟩
abbrev s_law : Stmt := (topS 26)
theorem sc_law : FnScope ["script", "draws", "kind", "payload", "row", "passed", "sector", "k", "part", "changed", "body", "draw"] ["script"] (defScope s_law) := ⟨rfl, rfl, rfl, by decide +kernel, rfl, by decide +kernel, by decide +kernel⟩

structure TX (K : PySem.W.Frag) (mg : Str → Option Value) where
  a_MajordomoError : Addr
  g_MajordomoError : mg "MajordomoError" = some (.ref a_MajordomoError)
  x_MajordomoError : PySem.W.excIn K a_MajordomoError [.type "ValueError", .type "Exception", .type "BaseException", .type "object"] "ValueError.__new__" = true
  k_MajordomoError : PySem.W.keepIn K (.ref a_MajordomoError) = true
  s_MajordomoError : PySem.W.subIn K (.ref a_MajordomoError) (.type "BaseException") = some true
  t_MajordomoError : PySem.W.typeIn K (.ref a_MajordomoError) = some (.type "type")
  a_CodecError : Addr
  g_CodecError : mg "CodecError" = some (.ref a_CodecError)
  x_CodecError : PySem.W.excIn K a_CodecError [.type "ValueError", .type "Exception", .type "BaseException", .type "object"] "ValueError.__new__" = true
  k_CodecError : PySem.W.keepIn K (.ref a_CodecError) = true
  s_CodecError : PySem.W.subIn K (.ref a_CodecError) (.type "BaseException") = some true
  t_CodecError : PySem.W.typeIn K (.ref a_CodecError) = some (.type "type")
  a_Truncated : Addr
  g_Truncated : mg "Truncated" = some (.ref a_Truncated)
  x_Truncated : PySem.W.excIn K a_Truncated [.type "ValueError", .type "Exception", .type "BaseException", .type "object"] "ValueError.__new__" = true
  k_Truncated : PySem.W.keepIn K (.ref a_Truncated) = true
  s_Truncated : PySem.W.subIn K (.ref a_Truncated) (.type "BaseException") = some true
  t_Truncated : PySem.W.typeIn K (.ref a_Truncated) = some (.type "type")
  a_Malformed : Addr
  g_Malformed : mg "Malformed" = some (.ref a_Malformed)
  x_Malformed : PySem.W.excIn K a_Malformed [.type "ValueError", .type "Exception", .type "BaseException", .type "object"] "ValueError.__new__" = true
  k_Malformed : PySem.W.keepIn K (.ref a_Malformed) = true
  s_Malformed : PySem.W.subIn K (.ref a_Malformed) (.type "BaseException") = some true
  t_Malformed : PySem.W.typeIn K (.ref a_Malformed) = some (.type "type")
  a_Damaged : Addr
  g_Damaged : mg "Damaged" = some (.ref a_Damaged)
  x_Damaged : PySem.W.excIn K a_Damaged [.type "ValueError", .type "Exception", .type "BaseException", .type "object"] "ValueError.__new__" = true
  k_Damaged : PySem.W.keepIn K (.ref a_Damaged) = true
  s_Damaged : PySem.W.subIn K (.ref a_Damaged) (.type "BaseException") = some true
  t_Damaged : PySem.W.typeIn K (.ref a_Damaged) = some (.type "type")
  ee_Damaged : PySem.W.exmOne K (.ref a_Damaged) (.ref a_Damaged) = some true
  a_NotAValue : Addr
  g_NotAValue : mg "NotAValue" = some (.ref a_NotAValue)
  x_NotAValue : PySem.W.excIn K a_NotAValue [.type "ValueError", .type "Exception", .type "BaseException", .type "object"] "ValueError.__new__" = true
  k_NotAValue : PySem.W.keepIn K (.ref a_NotAValue) = true
  s_NotAValue : PySem.W.subIn K (.ref a_NotAValue) (.type "BaseException") = some true
  t_NotAValue : PySem.W.typeIn K (.ref a_NotAValue) = some (.type "type")
  X_Damaged : ExcC K a_Damaged
  y_Damaged_Truncated : PySem.W.kitOne K (.ref a_Damaged) (.ref a_Truncated) = some false
  y_Damaged_Malformed : PySem.W.kitOne K (.ref a_Damaged) (.ref a_Malformed) = some false
  y_Damaged_NotAValue : PySem.W.kitOne K (.ref a_Damaged) (.ref a_NotAValue) = some false
  y_Damaged_CodecError : PySem.W.kitOne K (.ref a_Damaged) (.ref a_CodecError) = some true
  a_checksum : Addr
  d_checksum : FuncData
  da_checksum_0 : Addr
  dq_checksum_0 : ∀ H, SqT K H da_checksum_0 [(.int 1), (.int 1)]
  FD_checksum : FunD K "checksum" "checksum" (defArgs s_checksum) (defBody s_checksum) (defScope s_checksum) [.ref da_checksum_0] [] a_checksum d_checksum
  bD_checksum_1 : ∃ ds, Vals (([.ref da_checksum_0] : List V).drop 0) ds ∧ Binds K d_checksum ["row", "start"] ds
  bD_checksum_2 : ∃ ds, Vals (([.ref da_checksum_0] : List V).drop 1) ds ∧ Binds K d_checksum ["row", "start"] ds
  g_checksum : mg "checksum" = some (.ref a_checksum)
  a_check_bytes : Addr
  d_check_bytes : FuncData
  F_check_bytes : Fun K "check_bytes" "check_bytes" s_check_bytes a_check_bytes d_check_bytes
  b_check_bytes : Binds K d_check_bytes ["pair"] []
  g_check_bytes : mg "check_bytes" = some (.ref a_check_bytes)
  a_make_sector : Addr
  d_make_sector : FuncData
  F_make_sector : Fun K "make_sector" "make_sector" s_make_sector a_make_sector d_make_sector
  b_make_sector : Binds K d_make_sector ["kind", "payload"] []
  g_make_sector : mg "make_sector" = some (.ref a_make_sector)
  a_read_sector : Addr
  d_read_sector : FuncData
  F_read_sector : Fun K "read_sector" "read_sector" s_read_sector a_read_sector d_read_sector
  b_read_sector : Binds K d_read_sector ["sector"] []
  g_read_sector : mg "read_sector" = some (.ref a_read_sector)
  a__law_is_integer : Addr
  d__law_is_integer : FuncData
  F__law_is_integer : Fun K "_law_is_integer" "_law_is_integer" s__law_is_integer a__law_is_integer d__law_is_integer
  b__law_is_integer : Binds K d__law_is_integer ["actual"] []
  g__law_is_integer : mg "_law_is_integer" = some (.ref a__law_is_integer)
  a__law_draws : Addr
  d__law_draws : FuncData
  F__law_draws : Fun K "_law_draws" "_law_draws" s__law_draws a__law_draws d__law_draws
  b__law_draws : Binds K d__law_draws ["script", "many"] []
  g__law_draws : mg "_law_draws" = some (.ref a__law_draws)
  a__law_sector : Addr
  d__law_sector : FuncData
  F__law_sector : Fun K "_law_sector" "_law_sector" s__law_sector a__law_sector d__law_sector
  b__law_sector : Binds K d__law_sector ["body"] []
  g__law_sector : mg "_law_sector" = some (.ref a__law_sector)
  a__law_damaged : Addr
  d__law_damaged : FuncData
  F__law_damaged : Fun K "_law_damaged" "_law_damaged" s__law_damaged a__law_damaged d__law_damaged
  b__law_damaged : Binds K d__law_damaged ["row"] []
  g__law_damaged : mg "_law_damaged" = some (.ref a__law_damaged)
  a__law_read_back : Addr
  d__law_read_back : FuncData
  F__law_read_back : Fun K "_law_read_back" "_law_read_back" s__law_read_back a__law_read_back d__law_read_back
  b__law_read_back : Binds K d__law_read_back ["sector", "kind", "payload"] []
  g__law_read_back : mg "_law_read_back" = some (.ref a__law_read_back)
  a__law_wrong_bodies : Addr
  d__law_wrong_bodies : FuncData
  F__law_wrong_bodies : Fun K "_law_wrong_bodies" "_law_wrong_bodies" s__law_wrong_bodies a__law_wrong_bodies d__law_wrong_bodies
  b__law_wrong_bodies : Binds K d__law_wrong_bodies ["kind", "payload", "draw"] []
  g__law_wrong_bodies : mg "_law_wrong_bodies" = some (.ref a__law_wrong_bodies)
  a_law : Addr
  d_law : FuncData
  F_law : Fun K "law" "law" s_law a_law d_law
  b_law : Binds K d_law ["script"] []
  g_law : mg "law" = some (.ref a_law)
  t_MODULUS : Tok
  c_MODULUS : mg "MODULUS" = some (.int 65521 t_MODULUS)
  t_SECTOR : Tok
  c_SECTOR : mg "SECTOR" = some (.int 64 t_SECTOR)
  t_PAYLOAD : Tok
  c_PAYLOAD : mg "PAYLOAD" = some (.int 58 t_PAYLOAD)
  ca_BLANK : Addr
  c_BLANK : mg "BLANK" = some (.ref ca_BLANK)
  q_BLANK : ∀ H, SqT K H ca_BLANK [(.int 0), (.int 0), (.int 0), (.int 0), (.int 0), (.int 0), (.int 0), (.int 0), (.int 0), (.int 0), (.int 0), (.int 0), (.int 0), (.int 0), (.int 0), (.int 0), (.int 0), (.int 0), (.int 0), (.int 0), (.int 0), (.int 0), (.int 0), (.int 0), (.int 0), (.int 0), (.int 0), (.int 0), (.int 0), (.int 0), (.int 0), (.int 0), (.int 0), (.int 0), (.int 0), (.int 0), (.int 0), (.int 0), (.int 0), (.int 0), (.int 0), (.int 0), (.int 0), (.int 0), (.int 0), (.int 0), (.int 0), (.int 0), (.int 0), (.int 0), (.int 0), (.int 0), (.int 0), (.int 0), (.int 0), (.int 0), (.int 0), (.int 0), (.int 0), (.int 0), (.int 0), (.int 0), (.int 0), (.int 0)]
  t_CHECK_BYTES : Tok
  c_CHECK_BYTES : mg "CHECK_BYTES" = some (.int 4 t_CHECK_BYTES)
  t_MOST_KIND : Tok
  c_MOST_KIND : mg "MOST_KIND" = some (.int 9 t_MOST_KIND)
  n_range : mg "range" = none
  n_len : mg "len" = none
  n_abs : mg "abs" = none
  n_int : mg "int" = none
  n_isinstance : mg "isinstance" = none
  n_bool : mg "bool" = none
  n_list : mg "list" = none
  n_tuple : mg "tuple" = none

/-! the draws of a script: many numbers from 0 to 996 -/
def Drawn (ds : List Int) : Prop := ∀ d ∈ ds, 0 ≤ d ∧ d < 997
theorem drawn_app {ds es : List Int} (h : Drawn ds) (g : Drawn es) : Drawn (ds ++ es) := fun d hd => (List.mem_append.mp hd).elim (h d) (g d)
theorem drawn_one {d : Int} (h : 0 ≤ d) (g : d < 997) : Drawn [d] := fun e he => by rw [List.mem_singleton] at he; subst he; exact ⟨h, g⟩
theorem drawn_take {ds : List Int} (n : Nat) (h : Drawn ds) : Drawn (ds.take n) := fun d hd => h d (List.mem_of_mem_take hd)
def sp_draws (K : PySem.W.Frag) : Sp := fun vs H Q _ => ∃ (a : Addr) (ns : List Int) (many : Nat), vs = [.ref a, .int (many : Int)] ∧ SqL K H a (ns.map V.int) ∧ ns.length ≤ 63 ∧ many ≤ 1000 ∧
  ∀ (p : Addr) (H' : Hp) (ds : List Int), H p = none → Same H H' → H' p = some (.lst (ds.map V.int)) → Drawn ds → ds.length = many → Q (.ref p) H'
section
variable {P : Program} {w : World} {K : PySem.W.Frag} {mg : Str → Option Value} {base : Heap}
theorem ok__law_draws (T : TX K mg) : FnOk P w K mg base CX0 1 T.a__law_draws T.d__law_draws ["script", "many"] (sp_draws K) := by
  refine T.F__law_draws.ok sc__law_draws (fun vs H Q E h => ?_) (fun cdv A outer s H vs Q E hr h => ?_)
  · obtain ⟨a, ns, many, rfl, _⟩ := h
    rfl
  · obtain ⟨a, ns, many, rfl, hS, hlen, hm, q⟩ := h
    refine ⟨_, (pss_cons (ps_set (i := 2) sc__law_draws.nd rfl (Or.inl rfl) (pe_lst pa_nil))
      (pss_cons (ps_set (i := 3) sc__law_draws.nd rfl (Or.inl rfl) pe_int)
      (pss_cons (ps_for PassesOwn.never rfl (pi_range1 (by rfl) T.n_range (pa_cons (pe_callB call_len_seq (by rfl) T.n_len PySem.boot_len (pa_cons (pv 0) pa_nil)) pa_nil)) (pg_name (i := 4) sc__law_draws.nd rfl (Or.inl rfl))
        (pss_cons (ps_set (i := 5) sc__law_draws.nd rfl (Or.inl rfl) (pe_callB call_abs (by rfl) T.n_abs (by decide +kernel) (pa_cons (pe_callTy call_int1 (by rfl) T.n_int (by decide +kernel) (pa_cons (pe_ix ix_list (pv 0) (pv 4) (fun _ _ => rfl)) pa_nil)) pa_nil)))
        (pss_cons (ps_set (i := 3) sc__law_draws.nd rfl (Or.inl rfl) (pe_op op_mod (pe_callTy call_int1 (by rfl) T.n_int (by decide +kernel) (pa_cons (pe_op op_add (pe_op op_add (pe_op op_mul (pv 3) pe_int) (pe_op op_mod (pv 5) pe_int)) (pv 4)) pa_nil)) pe_int))
        (pss_cons (ps_set (i := 6) sc__law_draws.nd rfl (Or.inl rfl) pe_int)
        (C8.pss_cut (ps_if (pt_cmpR op_ge (pv 5) (pe_op op_pow pe_int pe_int) (nomark _)) (pss_one (ps_set (i := 6) sc__law_draws.nd rfl (Or.inl rfl) (pv 5))) (pss_cons (ps_expr (pe_bm PySem.F.plainAttrs_list PySem.F.slot_list_append PySem.F.type_list_append mt_append (pv 2) (pa_cons (pe_op op_mod (pv 5) pe_int) pa_nil)))
          (pss_one (ps_expr (pe_bm PySem.F.plainAttrs_list PySem.F.slot_list_append PySem.F.type_list_append mt_append (pv 2) (pa_cons (pe_op op_mod (pe_op op_mod (pe_callTy call_int1 (by rfl) T.n_int (by decide +kernel) (pa_cons (pe_op op_add (pe_op op_mul (pv 3) pe_int) pe_int) pa_nil)) pe_int) pe_int) pa_nil))))))
        (pss_one (ps_for PassesOwn.never rfl (pi_range1 (by rfl) T.n_range (pa_cons pe_int pa_nil)) (pg_name (i := 7) sc__law_draws.nd rfl (Or.inl rfl))
          (pss_one (ps_if (pt_cmpR op_gt (pv 6) pe_int (nomark _)) (pss_cons (ps_expr (pe_bm PySem.F.plainAttrs_list PySem.F.slot_list_append PySem.F.type_list_append mt_append (pv 2) (pa_cons (pe_op op_mod (pe_callTy call_int1 (by rfl) T.n_int (by decide +kernel) (pa_cons (pv 6) pa_nil)) pe_int) pa_nil)))
            (pss_one (ps_set (i := 6) sc__law_draws.nd rfl (Or.inl rfl) (pe_op op_fdiv (pv 6) pe_int)))) pss_nil)))))))))
      (pss_cons (ps_for PassesOwn.never rfl (pi_range1 (by rfl) T.n_range (pa_cons (pv 1) pa_nil)) (pg_name (i := 4) sc__law_draws.nd rfl (Or.inl rfl))
        (pss_cons (ps_set (i := 3) sc__law_draws.nd rfl (Or.inl rfl) (pe_op op_mod (pe_callTy call_int1 (by rfl) T.n_int (by decide +kernel) (pa_cons (pe_op op_add (pe_op op_add (pe_op op_mul (pv 3) pe_int) (pv 4)) pe_int) pa_nil)) pe_int))
        (pss_one (ps_expr (pe_bm PySem.F.plainAttrs_list PySem.F.slot_list_append PySem.F.type_list_append mt_append (pv 2) (pa_cons (pe_op op_mod (pe_callTy call_int1 (by rfl) T.n_int (by decide +kernel) (pa_cons (pv 3) pa_nil)) pe_int) pa_nil))))))
      (pss_one (ps_ret (pe_slice sl_list (pv 2) po_none (po_some (pv 1))))))))), ?_⟩
    refine ⟨Nat.zero_le _, fun o ho => ?_⟩
    have s1 := same_upd (o := .lst []) ho
    -- each cell
    refine ⟨_, rfl, a, _, rfl, .inl (s1.seq hS), _, rfl, by rw [List.length_map]; omega, by rw [List.length_map]; omega, for_range (lo := 0) (n := _) (fun i σ H2 => ∃ (ds : List Int) (mx : Int) (x4 x5 x6 x7 : Option V), σ = [some (.ref a), some (.int (many : Int)), some (.ref o), some (.int mx), x4, x5, x6, x7] ∧ Same H H2 ∧ H2 o = some (.lst (ds.map V.int)) ∧ Drawn ds ∧ ds.length ≤ 62 * i)
      ⟨[], 7, none, none, none, none, rfl, s1, upd_same, (fun _ h => by cases h), Nat.le_refl _⟩ ?_ ?_⟩
    · rintro i σ H2 hi ⟨ds, mx, x4, x5, x6, x7, rfl, g1, g2, g3, g4⟩
      rw [List.length_map] at hi
      have hi' : i < ns.length := by omega
      have hg : ns[i]? = some ns[i] := List.getElem?_eq_getElem hi'
      have ha : atI (ns.map V.int) (0 + (i : Int)) = some (.int ns[i]) := by rw [Int.zero_add]; exact at_map hg
      generalize ns[i] = c at ha
      -- cell, mixed
      refine ⟨_, rfl, _, rfl, a, _, _, _, rfl, rfl, g1.seq hS, ha, .inl ⟨_, rfl, _, rfl, ?_⟩⟩
      dsimp only
      have hc : 0 ≤ (if c < 0 then -c else c) := by split <;> omega
      generalize (if c < 0 then -c else c) = cell at hc
      refine ⟨_, rfl, _, _, rfl, rfl, .inr ⟨by decide, by decide⟩, _, rfl, _, _, rfl, rfl, (by show (0 : Int) < _; decide), _, _, rfl, rfl, _, rfl, _, _, rfl, rfl, .inl ⟨_, rfl, _, _, rfl, rfl, (by show (0 : Int) < _; decide), ?_⟩⟩
      dsimp only
      generalize (mx * 48271 + cell % 1000003 + (0 + (i : Int))) % 65537 = mx2
      -- rest = 0; if cell >= 10 ** 18
      refine ⟨fun σ' H' => ∃ (ds' : List Int) (rest : Int) , 0 ≤ rest ∧ σ' = [some (.ref a), some (.int (many : Int)), some (.ref o), some (.int mx2), some (.int (0 + (i : Int))), some (.int cell), some (.int rest), x7] ∧ Same H H' ∧ H' o = some (.lst (ds'.map V.int)) ∧ Drawn ds' ∧ ds'.length ≤ 62 * i + 2, ?_, ?_⟩
      · refine ⟨_, rfl, _, _, rfl, rfl, ⟨by decide, by decide, by decide⟩, _, _, rfl, rfl, _, rfl, ifd (fun hb => ?_) (fun hb => ?_)⟩
        · exact ⟨_, rfl, ds, cell, hc, rfl, g1, g2, g3, by omega⟩
        · refine ⟨_, rfl, .inl ⟨rfl, _, sql g2⟩, _, rfl, _, _, rfl, rfl, (by show (0 : Int) < _; decide), o, _, _, rfl, rfl, g2, szl (by rw [List.length_map]; omega), ?_⟩
          refine ⟨_, rfl, .inl ⟨rfl, _, sql upd_same⟩, _, rfl, _, _, rfl, rfl, .inr ⟨by decide, by decide⟩, _, _, rfl, rfl, .inl ⟨_, rfl, _, _, rfl, rfl, (by show (0 : Int) < _; decide), _, _, rfl, rfl, (by show (0 : Int) < _; decide), o, _, _, rfl, rfl, upd_same, szl (by rw [List.length_append, List.length_map]; simp only [List.length_cons, List.length_nil]; omega), ?_⟩⟩
          refine ⟨ds ++ [cell % 997, (mx2 * 69621 + 5) % 65521 % 997], 0, Int.le_refl _, rfl, same_put (same_put g1 ho) ho, ?_, drawn_app g3 fun d hd => ?_, by rw [List.length_append]; simp only [List.length_cons, List.length_nil]; omega⟩
          · rw [upd_same, List.map_append, List.append_assoc]
            rfl
          · simp only [List.mem_cons, List.not_mem_nil, or_false] at hd
            rcases hd with rfl | rfl
            · exact ⟨Int.emod_nonneg _ (by decide), Int.emod_lt_of_pos _ (by decide)⟩
            · exact ⟨Int.emod_nonneg _ (by decide), Int.emod_lt_of_pos _ (by decide)⟩
      rintro σ' H' ⟨ds', rest, hr0, rfl, k1, k2, k3, k4⟩
      -- sixty times
      refine ⟨60, rfl, by decide, by decide, for_range (lo := 0) (n := 60) (fun j σ H3 => ∃ (es : List Int) (rest : Int) (x7 : Option V), 0 ≤ rest ∧ σ = [some (.ref a), some (.int (many : Int)), some (.ref o), some (.int mx2), some (.int (0 + (i : Int))), some (.int cell), some (.int rest), x7] ∧ Same H H3 ∧ H3 o = some (.lst (es.map V.int)) ∧ Drawn es ∧ es.length ≤ 62 * i + 2 + j)
        ⟨ds', rest, x7, hr0, rfl, k1, k2, k3, k4⟩ ?_ ?_⟩
      · rintro j σ H3 hj ⟨es, rest, x7, h0, rfl, k1, k2, k3, k4⟩
        refine ⟨_, rfl, _, _, rfl, rfl, _, rfl, ifd (fun hb => ?_) (fun hb => ?_)⟩
        · refine ⟨_, rfl, .inl ⟨rfl, _, sql k2⟩, _, rfl, .inl ⟨_, rfl, _, _, rfl, rfl, (by show (0 : Int) < _; decide), o, _, _, rfl, rfl, k2, szl (by rw [List.length_map]; omega), ?_⟩⟩
          refine ⟨_, rfl, _, _, rfl, rfl, ⟨by decide, by decide⟩, ?_⟩
          refine ⟨es ++ [rest % 997], rest / 997, some (.int (0 + (j : Int))), Int.ediv_nonneg h0 (by decide), rfl, same_put k1 ho, ?_, drawn_app k3 (drawn_one (Int.emod_nonneg _ (by decide)) (Int.emod_lt_of_pos _ (by decide))), by rw [List.length_append]; simp only [List.length_cons, List.length_nil]; omega⟩
          rw [upd_same, List.map_append]
          rfl
        · exact ⟨es, rest, some (.int (0 + (j : Int))), h0, rfl, k1, k2, k3, by omega⟩
      · rintro σ H3 ⟨es, rest, x7, h0, rfl, k1, k2, k3, k4⟩
        exact ⟨es, mx2, _, _, _, _, rfl, k1, k2, k3, by omega⟩
    · rintro σ H2 ⟨ds, mx, x4, x5, x6, x7, rfl, g1, g2, g3, g4⟩
      have hl0 : ds.length ≤ 4000 := by
        simp only [List.length_map] at g4
        omega
      refine ⟨_, rfl, (many : Int), rfl, by omega, by omega, for_range (lo := 0) (n := (many : Int).toNat) (fun i σ H3 => ∃ (es : List Int) (mx : Int) (x4 : Option V), σ = [some (.ref a), some (.int (many : Int)), some (.ref o), some (.int mx), x4, x5, x6, x7] ∧ Same H H3 ∧ H3 o = some (.lst (es.map V.int)) ∧ Drawn es ∧ es.length = ds.length + i)
        ⟨ds, mx, x4, rfl, g1, g2, g3, rfl⟩ ?_ ?_⟩
      · rintro i σ H3 hi ⟨es, mx, x4, rfl, k1, k2, k3, k4⟩
        refine ⟨_, rfl, _, _, rfl, rfl, .inr ⟨by decide, by decide⟩, _, rfl, _, _, rfl, rfl, _, _, rfl, rfl, .inl ⟨_, rfl, _, _, rfl, rfl, (by show (0 : Int) < _; decide), ?_⟩⟩
        refine ⟨_, rfl, .inl ⟨rfl, _, sql k2⟩, _, rfl, .inl ⟨_, rfl, _, _, rfl, rfl, (by show (0 : Int) < _; decide), o, _, _, rfl, rfl, k2, szl (by rw [List.length_map]; omega), ?_⟩⟩
        refine ⟨es ++ [(mx * 16807 + (0 + (i : Int)) + 1) % 65537 % 997], (mx * 16807 + (0 + (i : Int)) + 1) % 65537, some (.int (0 + (i : Int))), rfl, same_put k1 ho, ?_, drawn_app k3 (drawn_one (Int.emod_nonneg _ (by decide)) (Int.emod_lt_of_pos _ (by decide))), by rw [List.length_append, k4]; simp only [List.length_cons, List.length_nil]; omega⟩
        rw [upd_same, List.map_append]
        rfl
      · rintro σ H3 ⟨es, mx, x4, rfl, k1, k2, k3, k4⟩
        refine ⟨_, rfl, _, rfl, _, rfl, o, _, rfl, sql k2, fun p hp => ?_⟩
        refine q p _ (es.take many) (k1.free hp) (k1.trans (same_upd hp)) ?_ (drawn_take _ k3) (by rw [List.length_take]; omega)
        rw [upd_same, cut0n, List.map_take]
end
/-! an int that is no bool -/
def sp_isint : Sp := fun vs H Q _ => ∃ (i : Int), vs = [.int i] ∧ Q (.bl true) H
section
variable {P : Program} {w : World} {K : PySem.W.Frag} {mg : Str → Option Value} {base : Heap}
theorem ok__law_is_integer (T : TX K mg) : FnOk P w K mg base CX0 1 T.a__law_is_integer T.d__law_is_integer ["actual"] sp_isint := by
  refine T.F__law_is_integer.ok sc__law_is_integer (fun vs H Q E h => ?_) (fun cdv A outer s H vs Q E hr h => ?_)
  · obtain ⟨i, rfl, _⟩ := h
    rfl
  · obtain ⟨i, rfl, q⟩ := h
    refine ⟨_, (pss_one (ps_ret (pe_and (pe_callB call_isi (by rfl) T.n_isinstance (by decide +kernel) (pa_cons (pv 0) (pa_cons (pe_bltn (v := .ty "int") (u := .type "int") (by rfl) T.n_int (by decide +kernel) rfl) pa_nil))) (pe_one (pe_not (pe_callB call_isi (by rfl) T.n_isinstance (by decide +kernel) (pa_cons (pv 0) (pa_cons (pe_bltn (v := .ty "bool") (u := .type "bool") (by rfl) T.n_bool (by decide +kernel) rfl) pa_nil)))))))), ?_⟩
    refine ⟨.int i, rfl, .int i, .ty "int", .type "int", .type "int", true, rfl, .ty _, .base (.int i), kit_ty (by decide +kernel), true, rfl, ifbt rfl ?_⟩
    refine ⟨.int i, rfl, .int i, .ty "bool", .type "int", .type "bool", false, rfl, .ty _, .base (.int i), kit_ty (by decide +kernel), false, rfl, ?_⟩
    exact q
end
/-! the two sums -/
def sumStep (s : Int × Int) (b : Int) : Int × Int := ((s.1 + b + 1) % 65521, (s.2 + (s.1 + b + 1) % 65521) % 65521)
def sums (s : Int × Int) (bs : List Int) : Int × Int := bs.foldl sumStep s
theorem sums_more {s : Int × Int} {bs : List Int} {i : Nat} {b : Int} (h : bs[i]? = some b) : sums s (bs.take (i + 1)) = sumStep (sums s (bs.take i)) b := by
  unfold sums
  rw [take_more h, List.foldl_append]
  rfl
theorem sums_app (s : Int × Int) (bs cs : List Int) : sums s (bs ++ cs) = sums (sums s bs) cs := List.foldl_append
def sp_checksum (K : PySem.W.Frag) : Sp := fun vs H Q _ => ∃ (a t : Addr) (bs : List Int) (x y : Int), vs = [.ref a, .ref t] ∧ SqL K H a (bs.map V.int) ∧ SqT K H t [.int x, .int y] ∧ ∀ p H', H p = none → Same H H' → H' p = some (.tup [.int (sums (x, y) bs).1, .int (sums (x, y) bs).2]) → Q (.ref p) H'
section
variable {P : Program} {w : World} {K : PySem.W.Frag} {mg : Str → Option Value} {base : Heap}
theorem ok_checksum (T : TX K mg) : FnOk P w K mg base CX0 1 T.a_checksum T.d_checksum ["row", "start"] (sp_checksum K) := by
  refine okD T.FD_checksum sc_checksum (fun vs H Q E h => ?_) (fun cdv A outer s H vs Q E hr h => ?_)
  · obtain ⟨a, t, bs, x, y, rfl, _⟩ := h
    rfl
  · obtain ⟨a, t, bs, x, y, rfl, hS, hT, q⟩ := h
    refine ⟨_, (pss_cons (ps_asg (pv 1) (pg_tup (by rfl) (pgs_cons (pg_name (i := 2) sc_checksum.nd rfl (Or.inl rfl)) (pgs_cons (pg_name (i := 3) sc_checksum.nd rfl (Or.inl rfl)) pgs_nil))))
      (pss_cons (ps_for PassesOwn.never rfl (pi_list (pv 0)) (pg_name (i := 4) sc_checksum.nd rfl (Or.inl rfl))
        (pss_cons (ps_set (i := 2) sc_checksum.nd rfl (Or.inl rfl) (pe_op op_mod (pe_op op_add (pe_op op_add (pv 2) (pv 4)) pe_int) (pe_glob (v := .int 65521) (by rfl) T.c_MODULUS ⟨_, rfl⟩)))
        (pss_one (ps_set (i := 3) sc_checksum.nd rfl (Or.inl rfl) (pe_op op_mod (pe_op op_add (pv 3) (pv 2)) (pe_glob (v := .int 65521) (by rfl) T.c_MODULUS ⟨_, rfl⟩))))))
      (pss_one (ps_ret (pe_tup (pa_cons (pv 2) (pa_cons (pv 3) pa_nil))))))), ?_⟩
    refine ⟨_, rfl, t, _, rfl, hT, rfl, .int x, [.int y], rfl, .int y, [], rfl, rfl, ?_⟩
    refine ⟨_, rfl, a, rfl, ⟨_, hS⟩, for_list (K := K) (a := a) (xs := bs.map V.int) (fun i σ H2 => H = H2 ∧ ∃ x4, σ = [some (.ref a), some (.ref t), some (.int (sums (x, y) (bs.take i)).1), some (.int (sums (x, y) (bs.take i)).2), x4])
      ⟨rfl, none, rfl⟩ (fun i σ H2 _ ⟨e, _⟩ => by rw [← e]; exact hS) ?_ ?_⟩
    · rintro i v σ _ hx ⟨rfl, x4, rfl⟩
      obtain ⟨b, hb, rfl⟩ := map_at hx
      have hm := sums_more (s := (x, y)) hb
      refine ⟨_, rfl, _, rfl, _, _, rfl, rfl, _, _, rfl, rfl, _, _, rfl, rfl, (by show (0 : Int) < _; decide), ?_⟩
      refine ⟨_, rfl, _, rfl, _, _, rfl, rfl, _, _, rfl, rfl, (by show (0 : Int) < _; decide), ?_⟩
      refine ⟨rfl, some (.int b), ?_⟩
      rw [hm]
      rfl
    · rintro σ _ ⟨rfl, x4, rfl⟩
      rw [List.length_map, List.take_length]
      exact ⟨_, rfl, _, rfl, (by show 2 ≤ sizeLine; decide), fun p hp => q p _ hp (same_upd hp) upd_same⟩
end
/-! two changed bytes change the sums -/
def sA : List Int → Int
  | [] => 0
  | b :: bs => b + 1 + sA bs
def sB : List Int → Int
  | [] => 0
  | b :: bs => ((bs.length : Int) + 1) * (b + 1) + sB bs
/-- the same rest by 65521 -/
def Cg (a b : Int) : Prop := ∃ k : Int, a = b + 65521 * k
theorem Cg.refl (a : Int) : Cg a a := ⟨0, by omega⟩
theorem Cg.symm {a b : Int} (h : Cg a b) : Cg b a := by
  obtain ⟨k, e⟩ := h
  exact ⟨-k, by omega⟩
theorem Cg.trans {a b c : Int} (h : Cg a b) (g : Cg b c) : Cg a c := by
  obtain ⟨k, e⟩ := h
  obtain ⟨l, f⟩ := g
  exact ⟨k + l, by omega⟩
theorem cg_mod (a : Int) : Cg (a % 65521) a := ⟨-(a / 65521), by omega⟩
theorem Cg.add {a b c d : Int} (h : Cg a b) (g : Cg c d) : Cg (a + c) (b + d) := by
  obtain ⟨k, e⟩ := h
  obtain ⟨l, f⟩ := g
  exact ⟨k + l, by omega⟩
theorem Cg.mul (n : Int) {a b : Int} (h : Cg a b) : Cg (n * a) (n * b) := by
  obtain ⟨k, e⟩ := h
  exact ⟨n * k, by rw [e, Int.mul_add, Int.mul_left_comm]⟩
theorem sums_cg : ∀ (bs : List Int) (x y : Int), Cg (sums (x, y) bs).1 (x + sA bs) ∧ Cg (sums (x, y) bs).2 (y + (bs.length : Int) * x + sB bs)
  | [], x, y => ⟨by rw [sA, Int.add_zero]; exact .refl _, by
      rw [sB]
      show Cg y (y + (0 : Nat) * x + 0)
      have : y + ((0 : Nat) : Int) * x + 0 = y := by rw [Int.natCast_zero, Int.zero_mul]; omega
      rw [this]
      exact .refl _⟩
  | b :: bs, x, y => by
    have ih := sums_cg bs ((x + b + 1) % 65521) ((y + (x + b + 1) % 65521) % 65521)
    have c1 := cg_mod (x + b + 1)
    have c2 := (cg_mod (y + (x + b + 1) % 65521)).trans ((Cg.refl y).add c1)
    have e : sums (x, y) (b :: bs) = sums ((x + b + 1) % 65521, (y + (x + b + 1) % 65521) % 65521) bs := rfl
    rw [e]
    refine ⟨ih.1.trans ?_, ih.2.trans ?_⟩
    · have h := c1.add (.refl (sA bs))
      have q : x + b + 1 + sA bs = x + sA (b :: bs) := by rw [sA]; omega
      rw [q] at h
      exact h
    · have h := (c2.add (c1.mul (bs.length : Int))).add (.refl (sB bs))
      have q : y + (x + b + 1) + (bs.length : Int) * (x + b + 1) + sB bs = y + ((b :: bs).length : Int) * x + sB (b :: bs) := by
        rw [sB, List.length_cons, Int.natCast_add, Int.add_assoc x b 1, Int.mul_add, Int.add_mul, Int.add_mul]
        simp only [Int.natCast_one, Int.one_mul]
        omega
      rw [q] at h
      exact h
theorem sA_set : ∀ {bs : List Int} {i : Nat} {r : Int} (u : Int), bs[i]? = some r → sA (bs.set i u) = sA bs + (u - r)
  | [], i, r, u, h => by simp at h
  | b :: bs, 0, r, u, h => by
    have e : b = r := Option.some.inj h
    show u + 1 + sA bs = b + 1 + sA bs + (u - r)
    omega
  | b :: bs, i + 1, r, u, h => by
    have ih := sA_set (bs := bs) (i := i) u (by simpa using h)
    show b + 1 + sA (bs.set i u) = b + 1 + sA bs + (u - r)
    omega
theorem sB_set : ∀ {bs : List Int} {i : Nat} {r : Int} (u : Int), bs[i]? = some r → sB (bs.set i u) = sB bs + ((bs.length : Int) - i) * (u - r)
  | [], i, r, u, h => by simp at h
  | b :: bs, 0, r, u, h => by
    have e : b = r := Option.some.inj h
    show ((bs.length : Int) + 1) * (u + 1) + sB bs = ((bs.length : Int) + 1) * (b + 1) + sB bs + (((b :: bs).length : Int) - (0 : Nat)) * (u - r)
    rw [List.length_cons, Int.natCast_add, ← e]
    have q : ((bs.length : Int) + ((1 : Nat) : Int) - ((0 : Nat) : Int)) = (bs.length : Int) + 1 := by omega
    rw [q, Int.mul_sub, Int.mul_add, Int.mul_add]
    omega
  | b :: bs, i + 1, r, u, h => by
    have ih := sB_set (bs := bs) (i := i) u (by simpa using h)
    show (((bs.set i u).length : Int) + 1) * (b + 1) + sB (bs.set i u) = ((bs.length : Int) + 1) * (b + 1) + sB bs + (((b :: bs).length : Int) - ((i + 1 : Nat) : Int)) * (u - r)
    have q : (((b :: bs).length : Int) - ((i + 1 : Nat) : Int)) = (bs.length : Int) - i := by rw [List.length_cons]; omega
    rw [q, ih, List.length_set]
    omega
theorem cop : ∀ d : Nat, d < 256 → d ≠ 0 → Nat.Coprime 65521 d := by
  have h : (List.range 256).all (fun d => d == 0 || Nat.gcd 65521 d == 1) = true := by decide +kernel
  intro d hd h0
  have := List.all_eq_true.mp h d (List.mem_range.mpr hd)
  simp only [Bool.or_eq_true, beq_iff_eq] at this
  exact this.resolve_left h0
/-- 65521 divides no product of a small number and one below it -/
theorem no_prod {a d k : Int} (h : a * d = 65521 * k) (ha : a.natAbs < 65521) (hd : d.natAbs < 256) : a = 0 ∨ d = 0 := by
  by_cases h0 : d = 0
  · exact .inr h0
  · left
    have e : a.natAbs * d.natAbs = 65521 * k.natAbs := by
      rw [← Int.natAbs_mul, h, Int.natAbs_mul]
      rfl
    have dv : 65521 ∣ a.natAbs * d.natAbs := ⟨k.natAbs, e⟩
    have c := cop d.natAbs hd (by omega)
    have := c.dvd_of_dvd_mul_right dv
    have z := Nat.eq_zero_of_dvd_of_lt this ha
    omega
theorem sums_pos (s : Int × Int) : ∀ {bs : List Int}, bs ≠ [] → 0 ≤ (sums s bs).1 ∧ (sums s bs).1 < 65521 ∧ 0 ≤ (sums s bs).2 ∧ (sums s bs).2 < 65521 := by
  intro bs h
  obtain ⟨cs, b, rfl⟩ : ∃ cs b, bs = cs ++ [b] := ⟨bs.dropLast, bs.getLast h, (List.dropLast_concat_getLast h).symm⟩
  rw [sums_app]
  show 0 ≤ (sumStep (sums s cs) b).1 ∧ _ ∧ 0 ≤ (sumStep (sums s cs) b).2 ∧ _
  unfold sumStep
  exact ⟨Int.emod_nonneg _ (by decide), Int.emod_lt_of_pos _ (by decide), Int.emod_nonneg _ (by decide), Int.emod_lt_of_pos _ (by decide)⟩
/-- THE PROMISE: one or two changed places change the sums -/
theorem two_changed {bs : List Int} {i j : Nat} {u v r t : Int} (x y : Int) (hl : bs.length ≤ 65000) (hi : bs[i]? = some r) (hj : (bs.set i u)[j]? = some t) (hu : 0 ≤ u ∧ u < 256) (hv : 0 ≤ v ∧ v < 256) (hb : ∀ b ∈ bs, 0 ≤ b ∧ b < 256)
    (h : sums (x, y) ((bs.set i u).set j v) = sums (x, y) bs) : (bs.set i u).set j v = bs := by
  have li : i < bs.length := (List.getElem?_eq_some_iff.mp hi).1
  have lj : j < bs.length := by have := (List.getElem?_eq_some_iff.mp hj).1; rwa [List.length_set] at this
  have hr := hb r (List.mem_of_getElem? hi)
  have ht : 0 ≤ t ∧ t < 256 := by
    rcases List.mem_or_eq_of_mem_set (List.mem_of_getElem? hj) with q | q
    · exact hb t q
    · rw [q]; exact hu
  have c := sums_cg ((bs.set i u).set j v) x y
  have c0 := sums_cg bs x y
  rw [h] at c
  have k1 := (c0.1.symm.trans c.1)
  have k2 := (c0.2.symm.trans c.2)
  rw [sA_set v hj, sA_set u hi] at k1
  rw [sB_set v hj, sB_set u hi, List.length_set, List.length_set] at k2
  obtain ⟨m1, e1⟩ := k1
  obtain ⟨m2, e2⟩ := k2
  have d12 : (u - r) + (v - t) = 0 := by omega
  by_cases hij : i = j
  · subst hij
    rw [List.getElem?_set_self (by omega)] at hj
    have e : u = t := Option.some.inj hj
    have : v = r := by omega
    rw [List.set_set, this]
    exact set_self hi
  · have e : ((j : Int) - i) * (u - r) = 65521 * (-m2) := by
      have hv' : v - t = -(u - r) := by omega
      rw [hv', Int.mul_neg] at e2
      have q : ((j : Int) - i) * (u - r) = ((bs.length : Int) - i) * (u - r) - ((bs.length : Int) - j) * (u - r) := by
        rw [← Int.sub_mul]
        congr 1
        omega
      rw [q]
      omega
    rcases no_prod e (by omega) (by omega) with z | z
    · omega
    · have hu' : u = r := by omega
      subst hu'
      rw [set_self hi] at hj ⊢
      have : v = t := by omega
      subst this
      exact set_self hj
/-! sectors -/
def Bytes (bs : List Int) : Prop := ∀ b ∈ bs, 0 ≤ b ∧ b < 256
def chk (bs : List Int) : List Int := [(sums (1, 1) bs).1 % 256, (sums (1, 1) bs).1 / 256, (sums (1, 1) bs).2 % 256, (sums (1, 1) bs).2 / 256]
def secBody (kind : Int) (pl : List Int) : List Int := [kind, (pl.length : Int)] ++ pl ++ List.replicate (58 - pl.length) 0
def sec (b : List Int) : List Int := chk b ++ b
inductive Sr where
  | blank
  | ok (kind : Int) (pl : List Int)
  | bad
def rdB : List Int → Sr
  | k :: l :: rest => if k < 1 ∨ 9 < k then .bad else if 58 < l then .bad else if rest.drop l.toNat = List.replicate (rest.drop l.toNat).length 0 then .ok k (rest.take l.toNat) else .bad
  | _ => .bad
def rdS (bs : List Int) : Sr := if bs = List.replicate 64 0 then .blank else if bs.take 4 = chk (bs.drop 4) then rdB (bs.drop 4) else .bad
theorem chk_len (b : List Int) : (chk b).length = 4 := rfl
theorem sec_drop (b : List Int) : (sec b).drop 4 = b := List.drop_left' (chk_len b)
theorem sec_take (b : List Int) : (sec b).take 4 = chk b := List.take_left' (chk_len b)
theorem zero_chk : chk (List.replicate 60 0) ≠ List.replicate 4 0 := by decide +kernel
theorem sec_notblank {b : List Int} : sec b ≠ List.replicate 64 0 := by
  intro h
  have h1 := congrArg (List.drop 4) h
  have h2 := congrArg (List.take 4) h
  rw [sec_drop, List.drop_replicate] at h1
  rw [sec_take, List.take_replicate, h1] at h2
  exact zero_chk h2
theorem rdS_sec (b : List Int) : rdS (sec b) = rdB b := by
  unfold rdS
  rw [if_neg sec_notblank, sec_take, sec_drop, if_pos rfl]
theorem body_len {kind : Int} {pl : List Int} (h : pl.length ≤ 58) : (secBody kind pl).length = 60 := by
  unfold secBody
  rw [List.length_append, List.length_append, List.length_replicate]
  simp only [List.length_cons, List.length_nil]
  omega
theorem rd_right {kind : Int} {pl : List Int} (h : pl.length ≤ 58) (h1 : 1 ≤ kind) (h9 : kind ≤ 9) : rdS (sec (secBody kind pl)) = .ok kind pl := by
  rw [rdS_sec]
  show (if kind < 1 ∨ 9 < kind then Sr.bad else if 58 < (pl.length : Int) then .bad else if (pl ++ List.replicate (58 - pl.length) 0).drop ((pl.length : Int)).toNat = List.replicate ((pl ++ List.replicate (58 - pl.length) 0).drop ((pl.length : Int)).toNat).length 0 then .ok kind ((pl ++ List.replicate (58 - pl.length) 0).take ((pl.length : Int)).toNat) else .bad) = _
  rw [if_neg (by omega), if_neg (by omega), Int.toNat_natCast, List.drop_left, List.take_left, List.length_replicate, if_pos rfl]
theorem pair_eq {a b c d : Int} (h1 : a % 256 = c % 256) (h2 : a / 256 = c / 256) : a = c := by omega
theorem chk_inj {b c : List Int} (h : chk b = chk c) : sums (1, 1) b = sums (1, 1) c := by
  unfold chk at h
  simp only [List.cons.injEq, and_true] at h
  exact Prod.ext (by omega) (by omega)
/-- one changed place changes both sums -/
theorem one_changed {bs : List Int} {k : Nat} {v r : Int} (hl : bs.length ≤ 65000) (hk : bs[k]? = some r) (hr : 0 ≤ r ∧ r < 256) (hv : 0 ≤ v ∧ v < 256) (hne : v ≠ r) :
    (sums (1, 1) (bs.set k v)).1 ≠ (sums (1, 1) bs).1 ∧ (sums (1, 1) (bs.set k v)).2 ≠ (sums (1, 1) bs).2 := by
  have lk : k < bs.length := (List.getElem?_eq_some_iff.mp hk).1
  have c := sums_cg (bs.set k v) 1 1
  have c0 := sums_cg bs 1 1
  rw [sA_set v hk, sB_set v hk, List.length_set] at c
  refine ⟨fun h => ?_, fun h => ?_⟩
  · rw [h] at c
    obtain ⟨m, e⟩ := c0.1.symm.trans c.1
    omega
  · rw [h] at c
    obtain ⟨m, e⟩ := c0.2.symm.trans c.2
    have e' : ((bs.length : Int) - k) * (v - r) = 65521 * (-m) := by omega
    rcases no_prod e' (by omega) (by omega) with z | z <;> omega
theorem take4_set {b : List Int} {i : Nat} {u : Int} (h : 4 ≤ i) : (((sec b).set i u).take 4 = chk b) ∧ ((sec b).set i u).drop 4 = b.set (i - 4) u := by
  constructor
  · rw [List.take_set_of_le h, sec_take]
  · rw [List.drop_set, if_neg (by omega), sec_drop]
theorem set4 {b c : List Int} {i : Nat} {u : Int} (hc : c.length = 4) (h : i < 4) : ((c ++ b).set i u) = c.set i u ++ b := List.set_append_left _ _ (by omega)
theorem set4' {b c : List Int} {i : Nat} {u : Int} (hc : c.length = 4) (h : 4 ≤ i) : ((c ++ b).set i u) = c ++ b.set (i - 4) u := by rw [List.set_append_right _ _ (by omega), hc]
/-- check bytes of which one was changed do not fit a body of which one byte was changed -/
theorem mixed {b : List Int} {i k : Nat} {u v r : Int} (hl : b.length ≤ 65000) (hk : b[k]? = some r) (hr : 0 ≤ r ∧ r < 256) (hv : 0 ≤ v ∧ v < 256) (hi : i < 4) (h : (chk b).set i u = chk (b.set k v)) : (chk b).set i u ++ b.set k v = sec b := by
  by_cases hne : v = r
  · subst hne
    rw [set_self hk] at h ⊢
    rw [h]
    rfl
  · obtain ⟨n1, n2⟩ := one_changed hl hk hr hv hne
    exfalso
    unfold chk at h
    have h4 : i = 0 ∨ i = 1 ∨ i = 2 ∨ i = 3 := by omega
    rcases h4 with rfl | rfl | rfl | rfl <;> simp only [List.set_cons_zero, List.set_cons_succ, List.cons.injEq, and_true] at h
    · exact n2 (by omega)
    · exact n2 (by omega)
    · exact n1 (by omega)
    · exact n1 (by omega)
/-- what is left when all but two places are nothing -/
theorem not_zeros : (List.range 10).all (fun k => (List.range 59).all (fun n => k == 0 ||
    (let c := chk ([(k : Int), (n : Int)] ++ List.replicate 58 0); (c.getD 0 0 != 0) && (n != 0 || c.getD 2 0 != 0 || c.getD 3 0 != 0)))) = true := by decide +kernel
theorem not_blank {kind : Int} {pl : List Int} {i j : Nat} {u v : Int} (h : pl.length ≤ 58) (h1 : 1 ≤ kind) (h9 : kind ≤ 9) : ((sec (secBody kind pl)).set i u).set j v ≠ List.replicate 64 0 := by
  intro hz
  have z : ∀ k, k < 64 → k ≠ i → k ≠ j → (sec (secBody kind pl))[k]? = some 0 := fun k hk hi hj => by
    have e : (((sec (secBody kind pl)).set i u).set j v)[k]? = (List.replicate 64 (0 : Int))[k]? := by rw [hz]
    rw [List.getElem?_set_ne (fun q => hj q.symm), List.getElem?_set_ne (fun q => hi q.symm), List.getElem?_replicate, if_pos hk] at e
    exact e
  have g : ∀ k, (sec (secBody kind pl))[4 + k]? = (secBody kind pl)[k]? := fun k => by
    unfold sec
    rw [List.getElem?_append_right (by rw [chk_len]; omega), chk_len, Nat.add_sub_cancel_left]
  have g0 : (secBody kind pl)[0]? = some kind := rfl
  have g1 : (secBody kind pl)[1]? = some (pl.length : Int) := rfl
  have k4 : i = 4 ∨ j = 4 := by
    by_cases hi : 4 = i
    · exact .inl hi.symm
    · by_cases hj : 4 = j
      · exact .inr hj.symm
      · have := z 4 (by decide) hi hj
        rw [show (4 : Nat) = 4 + 0 from rfl, g 0, g0] at this
        have := Option.some.inj this
        omega
  -- the other place
  obtain ⟨q, zq⟩ : ∃ q : Nat, ∀ k, k < 64 → k ≠ 4 → k ≠ q → (sec (secBody kind pl))[k]? = some 0 := by
    rcases k4 with rfl | rfl
    · exact ⟨j, fun k hk h4 hq => z k hk h4 hq⟩
    · exact ⟨i, fun k hk h4 hq => z k hk hq h4⟩
  have hq : pl.length ≠ 0 → q = 5 := fun hn => by
    by_cases h5 : 5 = q
    · exact h5.symm
    · have := zq 5 (by decide) (by decide) h5
      rw [show (5 : Nat) = 4 + 1 from rfl, g 1, g1] at this
      have := Option.some.inj this
      omega
  have hpl : pl = List.replicate pl.length 0 := by
    refine List.eq_replicate_iff.mpr ⟨rfl, fun b hb => ?_⟩
    obtain ⟨t, ht, hb⟩ := List.getElem_of_mem hb
    have hq5 := hq (by omega)
    have := zq (4 + (2 + t)) (by omega) (by omega) (by omega)
    rw [g (2 + t)] at this
    unfold secBody at this
    rw [List.append_assoc, List.getElem?_append_right (by simp), List.getElem?_append_left (by simp; omega)] at this
    simp only [List.length_cons, List.length_nil] at this
    rw [show 2 + t - (0 + 1 + 1) = t by omega, List.getElem?_eq_getElem ht] at this
    have := Option.some.inj this
    omega
  have hb : secBody kind pl = [kind, (pl.length : Int)] ++ List.replicate 58 0 := by
    unfold secBody
    rw [List.append_assoc]
    congr 1
    rw [hpl, List.length_replicate, List.replicate_append_replicate]
    congr 1
    omega
  obtain ⟨kk, rfl⟩ : ∃ kk : Nat, kind = (kk : Int) := ⟨kind.toNat, by omega⟩
  have all := List.all_eq_true.mp (List.all_eq_true.mp not_zeros kk (List.mem_range.mpr (by omega))) pl.length (List.mem_range.mpr (by omega))
  rw [← hb] at all
  have kne : (kk == 0) = false := beq_eq_false_iff_ne.mpr (by omega)
  rw [kne, Bool.false_or, Bool.and_eq_true] at all
  have gc : ∀ k, k < 4 → (sec (secBody (kk : Int) pl))[k]? = some ((chk (secBody (kk : Int) pl)).getD k 0) := fun k hk => by
    unfold sec
    rw [List.getElem?_append_left (by rw [chk_len]; exact hk), List.getD_eq_getElem?_getD, List.getElem?_eq_getElem (by rw [chk_len]; exact hk)]
    rfl
  have nz : ∀ k, k < 4 → k ≠ q → (chk (secBody (kk : Int) pl)).getD k 0 = 0 := fun k hk hq => by
    have := zq k (by omega) (by omega) hq
    rw [gc k hk] at this
    exact Option.some.inj this
  have hq0 : q = 0 := by
    by_cases h0 : 0 = q
    · exact h0.symm
    · have := nz 0 (by decide) h0
      rw [this] at all
      exact absurd all.1 (by decide)
  have hn : pl.length = 0 := by
    by_cases hn : pl.length = 0
    · exact hn
    · have := hq hn
      omega
  have a2 := nz 2 (by decide) (by omega)
  have a3 := nz 3 (by decide) (by omega)
  have := all.2
  rw [a2, a3, hn] at this
  exact absurd this (by decide)
theorem body_bytes {kind : Int} {pl : List Int} (h : pl.length ≤ 58) (h0 : 0 ≤ kind) (h9 : kind < 256) (hp : Bytes pl) : Bytes (secBody kind pl) := fun b hb => by
  unfold secBody at hb
  rcases List.mem_append.mp hb with hb | hb
  · rcases List.mem_append.mp hb with hb | hb
    · simp only [List.mem_cons, List.not_mem_nil, or_false] at hb
      omega
    · exact hp b hb
  · have := (List.mem_replicate.mp hb).2
    omega
/-- THE PROMISE: one or two changed bytes of a written sector are found -/
theorem rd_changed {kind : Int} {pl : List Int} {i j : Nat} {u v : Int} (h : pl.length ≤ 58) (h1 : 1 ≤ kind) (h9 : kind ≤ 9) (hp : Bytes pl) (hi : i < 64) (hj : j < 64) (hu : 0 ≤ u ∧ u < 256) (hv : 0 ≤ v ∧ v < 256)
    (hne : ((sec (secBody kind pl)).set i u).set j v ≠ sec (secBody kind pl)) : rdS (((sec (secBody kind pl)).set i u).set j v) = .bad := by
  have hb := body_bytes (kind := kind) h (by omega) (by omega) hp
  have hl := body_len (kind := kind) h
  have hnb := not_blank (i := i) (j := j) (u := u) (v := v) h h1 h9
  generalize secBody kind pl = b at hne hb hl hnb
  unfold rdS
  rw [if_neg hnb]
  refine if_neg fun hc => hne ?_
  have hk : ∀ k, 4 ≤ k → k < 64 → ∃ r, b[k - 4]? = some r ∧ 0 ≤ r ∧ r < 256 := fun k h4 hk => by
    have hlt : k - 4 < b.length := by omega
    exact ⟨b[k - 4], List.getElem?_eq_getElem hlt, hb _ (List.getElem_mem hlt)⟩
  have lc : (chk b).length = 4 := rfl
  by_cases h4i : i < 4
  · by_cases h4j : j < 4
    · have e : ((sec b).set i u).set j v = ((chk b).set i u).set j v ++ b := by
        unfold sec
        rw [set4 lc h4i, set4 (by rw [List.length_set]; rfl) h4j]
      rw [e] at hc ⊢
      have l4 : (((chk b).set i u).set j v).length = 4 := by rw [List.length_set, List.length_set]; rfl
      rw [List.take_left' l4, List.drop_left' l4] at hc
      rw [hc]
      rfl
    · obtain ⟨r, hr, hr2⟩ := hk j (by omega) hj
      have e : ((sec b).set i u).set j v = (chk b).set i u ++ b.set (j - 4) v := by
        unfold sec
        rw [set4 lc h4i, set4' (by rw [List.length_set]; rfl) (by omega)]
      rw [e] at hc ⊢
      have l4 : ((chk b).set i u).length = 4 := by rw [List.length_set]; rfl
      rw [List.take_left' l4, List.drop_left' l4] at hc
      exact mixed (by omega) hr hr2 hv h4i hc
  · by_cases h4j : j < 4
    · obtain ⟨r, hr, hr2⟩ := hk i (by omega) hi
      have e : ((sec b).set i u).set j v = (chk b).set j v ++ b.set (i - 4) u := by
        unfold sec
        rw [set4' lc (by omega), set4 lc h4j]
      rw [e] at hc ⊢
      have l4 : ((chk b).set j v).length = 4 := by rw [List.length_set]; rfl
      rw [List.take_left' l4, List.drop_left' l4] at hc
      exact mixed (by omega) hr hr2 hu h4j hc
    · obtain ⟨r, hr, hr2⟩ := hk i (by omega) hi
      have e : ((sec b).set i u).set j v = chk b ++ (b.set (i - 4) u).set (j - 4) v := by
        unfold sec
        rw [set4' lc (by omega), set4' lc (by omega)]
      rw [e] at hc ⊢
      rw [List.take_left' lc, List.drop_left' lc] at hc
      have hlt : j - 4 < (b.set (i - 4) u).length := by rw [List.length_set]; omega
      have := two_changed 1 1 (by omega) hr (List.getElem?_eq_getElem hlt) hu hv hb (chk_inj hc).symm
      rw [this]
      rfl
theorem rdB_cons (k l : Int) (rest : List Int) : rdB (k :: l :: rest) = if k < 1 ∨ 9 < k then .bad else if 58 < l then .bad else if rest.drop l.toNat = List.replicate (rest.drop l.toNat).length 0 then .ok k (rest.take l.toNat) else .bad := rfl
theorem rdB_kind {k l : Int} {rest : List Int} (h : k < 1 ∨ 9 < k) : rdB (k :: l :: rest) = .bad := if_pos h
theorem rdB_len {k l : Int} {rest : List Int} (h : 58 < l) : rdB (k :: l :: rest) = .bad := by
  rw [rdB_cons]
  by_cases c : k < 1 ∨ 9 < k
  · exact if_pos c
  · rw [if_neg c, if_pos h]
theorem rdB_fill {k l : Int} {rest : List Int} {t : Nat} {x : Int} (ht : l.toNat ≤ t) (hx : rest[t]? = some x) (h : x ≠ 0) : rdB (k :: l :: rest) = .bad := by
  rw [rdB_cons]
  by_cases c : k < 1 ∨ 9 < k
  · exact if_pos c
  · rw [if_neg c]
    by_cases c2 : 58 < l
    · exact if_pos c2
    · rw [if_neg c2, if_neg]
      intro e
      have q := congrArg (fun m => m[t - l.toNat]?) e
      simp only [List.getElem?_drop] at q
      rw [show l.toNat + (t - l.toNat) = t by omega, hx, List.getElem?_replicate] at q
      split at q
      · exact h (Option.some.inj q)
      · cases q
/-! making and reading sectors -/
def sp_check (K : PySem.W.Frag) : Sp := fun vs H Q _ => ∃ (t : Addr) (x y : Int), vs = [.ref t] ∧ SqT K H t [.int x, .int y] ∧ ∀ p H', H p = none → Same H H' → H' p = some (.lst ([x % 256, x / 256, y % 256, y / 256].map V.int)) → Q (.ref p) H'
def sp_checksumT (K : PySem.W.Frag) : Sp := fun vs H Q _ => ∃ (a t : Addr) (bs : List Int) (x y : Int), vs = [.ref a, .ref t] ∧ SqT K H a (bs.map V.int) ∧ SqT K H t [.int x, .int y] ∧ ∀ p H', H p = none → Same H H' → H' p = some (.tup [.int (sums (x, y) bs).1, .int (sums (x, y) bs).2]) → Q (.ref p) H'
def sp_make (K : PySem.W.Frag) : Sp := fun vs H Q _ => ∃ (a : Addr) (kind : Int) (pl : List Int), vs = [.int kind, .ref a] ∧ SqL K H a (pl.map V.int) ∧ pl.length ≤ 58 ∧ ∀ p H', H p = none → Same H H' → H' p = some (.tup ((sec (secBody kind pl)).map V.int)) → Q (.ref p) H'
def sp_read (K : PySem.W.Frag) (cD : Addr) : Sp := fun vs H Q E => ∃ (a : Addr) (bs : List Int), vs = [.ref a] ∧ SqT K H a (bs.map V.int) ∧ bs.length = 64 ∧ Bytes bs ∧ (rdS bs = .blank → Q .non H) ∧ (rdS bs = .bad → ∀ H', Same H H' → E (.ref cD) none H') ∧
  ∀ kind pl, rdS bs = .ok kind pl → ∀ p q H', Same H H' → H' p = some (.tup [.int kind, .ref q]) → H' q = some (.lst (pl.map V.int)) → Q (.ref p) H'
section
variable {P : Program} {w : World} {K : PySem.W.Frag} {mg : Str → Option Value} {base : Heap}
theorem ok_check_bytes (T : TX K mg) : FnOk P w K mg base CX0 1 T.a_check_bytes T.d_check_bytes ["pair"] (sp_check K) := by
  refine T.F_check_bytes.ok sc_check_bytes (fun vs H Q E h => ?_) (fun cdv A outer s H vs Q E hr h => ?_)
  · obtain ⟨t, x, y, rfl, _⟩ := h
    rfl
  · obtain ⟨t, x, y, rfl, hT, q⟩ := h
    refine ⟨_, (pss_cons (ps_asg (pv 0) (pg_tup (by rfl) (pgs_cons (pg_name (i := 1) sc_check_bytes.nd rfl (Or.inl rfl)) (pgs_cons (pg_name (i := 2) sc_check_bytes.nd rfl (Or.inl rfl)) pgs_nil))))
      (pss_one (ps_ret (pe_lst (pa_cons (pe_op op_mod (pv 1) pe_int) (pa_cons (pe_op op_fdiv (pv 1) pe_int) (pa_cons (pe_op op_mod (pv 2) pe_int) (pa_cons (pe_op op_fdiv (pv 2) pe_int) pa_nil)))))))), ?_⟩
    refine ⟨_, rfl, t, _, rfl, hT, rfl, .int x, [.int y], rfl, .int y, [], rfl, rfl, ?_⟩
    refine ⟨_, rfl, _, _, rfl, rfl, (by show (0 : Int) < _; decide), _, rfl, _, _, rfl, rfl, ⟨by decide, by decide⟩, _, rfl, _, _, rfl, rfl, (by show (0 : Int) < _; decide), _, rfl, _, _, rfl, rfl, ⟨by decide, by decide⟩, (by show 4 ≤ sizeLine; decide), fun p hp => q p _ hp (same_upd hp) upd_same⟩
/-- the sums of a tuple -/
theorem ok_checksumT (T : TX K mg) : FnOk P w K mg base CX0 1 T.a_checksum T.d_checksum ["row", "start"] (sp_checksumT K) := by
  refine okD T.FD_checksum sc_checksum (fun vs H Q E h => ?_) (fun cdv A outer s H vs Q E hr h => ?_)
  · obtain ⟨a, t, bs, x, y, rfl, _⟩ := h
    rfl
  · obtain ⟨a, t, bs, x, y, rfl, hS, hT, q⟩ := h
    refine ⟨_, (pss_cons (ps_asg (pv 1) (pg_tup (by rfl) (pgs_cons (pg_name (i := 2) sc_checksum.nd rfl (Or.inl rfl)) (pgs_cons (pg_name (i := 3) sc_checksum.nd rfl (Or.inl rfl)) pgs_nil))))
      (pss_cons (ps_for PassesOwn.never rfl (pi_tup (pv 0)) (pg_name (i := 4) sc_checksum.nd rfl (Or.inl rfl))
        (pss_cons (ps_set (i := 2) sc_checksum.nd rfl (Or.inl rfl) (pe_op op_mod (pe_op op_add (pe_op op_add (pv 2) (pv 4)) pe_int) (pe_glob (v := .int 65521) (by rfl) T.c_MODULUS ⟨_, rfl⟩)))
        (pss_one (ps_set (i := 3) sc_checksum.nd rfl (Or.inl rfl) (pe_op op_mod (pe_op op_add (pv 3) (pv 2)) (pe_glob (v := .int 65521) (by rfl) T.c_MODULUS ⟨_, rfl⟩))))))
      (pss_one (ps_ret (pe_tup (pa_cons (pv 2) (pa_cons (pv 3) pa_nil))))))), ?_⟩
    refine ⟨_, rfl, t, _, rfl, hT, rfl, .int x, [.int y], rfl, .int y, [], rfl, rfl, ?_⟩
    refine ⟨_, rfl, a, rfl, ⟨_, hS⟩, for_tup (K := K) (a := a) (xs := bs.map V.int) (fun i σ H2 => H = H2 ∧ ∃ x4, σ = [some (.ref a), some (.ref t), some (.int (sums (x, y) (bs.take i)).1), some (.int (sums (x, y) (bs.take i)).2), x4])
      ⟨rfl, none, rfl⟩ (fun i σ H2 _ ⟨e, _⟩ => by rw [← e]; exact hS) ?_ ?_⟩
    · rintro i v σ _ hx ⟨rfl, x4, rfl⟩
      obtain ⟨b, hb, rfl⟩ := map_at hx
      have hm := sums_more (s := (x, y)) hb
      refine ⟨_, rfl, _, rfl, _, _, rfl, rfl, _, _, rfl, rfl, _, _, rfl, rfl, (by show (0 : Int) < _; decide), ?_⟩
      refine ⟨_, rfl, _, rfl, _, _, rfl, rfl, _, _, rfl, rfl, (by show (0 : Int) < _; decide), ?_⟩
      refine ⟨rfl, some (.int b), ?_⟩
      rw [hm]
      rfl
    · rintro σ _ ⟨rfl, x4, rfl⟩
      rw [List.length_map, List.take_length]
      exact ⟨_, rfl, _, rfl, (by show 2 ≤ sizeLine; decide), fun p hp => q p _ hp (same_upd hp) upd_same⟩
theorem rep0 (n : Nat) : (List.replicate n [V.int 0]).flatten = (List.replicate n (0 : Int)).map V.int := by
  rw [List.map_replicate, List.flatten_replicate_singleton]
theorem secBody_map (kind : Int) (pl : List Int) : [V.int kind, V.int ((pl.map V.int).length : Int)] ++ pl.map V.int ++ (List.replicate ((58 : Int) - ((pl.map V.int).length : Int)).toNat [V.int 0]).flatten = (secBody kind pl).map V.int := by
  have e : ((58 : Int) - (pl.length : Int)).toNat = 58 - pl.length := by omega
  rw [List.length_map, rep0, e]
  unfold secBody
  rw [List.map_append, List.map_append]
  rfl
theorem ok_make_sector (T : TX K mg) : FnOk P w K mg base CX0 2 T.a_make_sector T.d_make_sector ["kind", "payload"] (sp_make K) := by
  refine T.F_make_sector.ok sc_make_sector (fun vs H Q E h => ?_) (fun cdv A outer s H vs Q E hr h => ?_)
  · obtain ⟨a, kind, pl, rfl, _⟩ := h
    rfl
  · obtain ⟨a, kind, pl, rfl, hS, hl, q⟩ := h
    refine ⟨_, (pss_cons (ps_set (i := 2) sc_make_sector.nd rfl (Or.inl rfl) (pe_op op_cat (pe_op op_cat (pe_lst (pa_cons (pv 0) (pa_cons (pe_callB call_len_seq (by rfl) T.n_len PySem.boot_len (pa_cons (pv 1) pa_nil)) pa_nil))) (pe_callTy call_list_of (by rfl) T.n_list (by decide +kernel) (pa_cons (pv 1) pa_nil))) (pe_op op_rep (pe_lst (pa_cons pe_int pa_nil)) (pe_op op_sub (pe_glob (v := .int 58) (by rfl) T.c_PAYLOAD ⟨_, rfl⟩) (pe_callB call_len_seq (by rfl) T.n_len PySem.boot_len (pa_cons (pv 1) pa_nil))))))
      (pss_one (ps_ret (pe_callTy call_tuple_of (by rfl) T.n_tuple (by decide +kernel) (pa_cons (pe_op op_cat (pe_call (ok_check_bytes T) (hr.mono (by decide)) (by rfl) T.g_check_bytes T.F_check_bytes.kp T.b_check_bytes .nil pass0 (pa_cons (pe_call (ok_checksum T) (hr.mono (by decide)) (by rfl) T.g_checksum T.FD_checksum.kp T.bD_checksum_1.choose_spec.2 T.bD_checksum_1.choose_spec.1 pass0 (pa_cons (pv 2) pa_nil)) pa_nil)) (pv 2)) pa_nil))))), ?_⟩
    have hml : (pl.map V.int).length = pl.length := List.length_map _
    walk_at "go"
    refine EL.use (xs := _) (el_cat (el_cat (el_lst (ea_cons (ei_var rfl) (ea_cons (ei_lenL rfl hS) ea_nil)) (by show 2 ≤ 90000; decide)) (el_listL rfl hS) ?_) (el_rep (el_lst (ea_cons ei_c ea_nil) (by decide)) (ei_i0 ei_c (ei_lenL rfl hS)) ?_ ?_ ?_) ?_) (fun p H1 s1 e1 => ?_)
    · simp only [List.length_cons, List.length_nil, hml]; omega
    · rw [hml]; omega
    · rw [hml]; omega
    · rw [hml]; simp only [List.length_cons, List.length_nil]; omega
    · rw [List.length_append, hml, List.length_flatten, List.map_replicate, List.sum_replicate_nat]
      simp only [List.length_cons, List.length_nil]
      omega
    rw [secBody_map] at e1
    have hb60 := body_len (kind := kind) hl
    -- tuple(check_bytes(checksum(body)) + body)
    refine ⟨_, rfl, p, T.da_checksum_0, secBody kind pl, 1, 1, rfl, sql e1, T.dq_checksum_0 _, fun t1 H2 _ s2 e2 => ⟨t1, _, _, rfl, sqt e2, fun c1 H3 _ s3 e3 => ⟨_, rfl, c1, p, _, _, rfl, rfl, e3, s3 _ _ (s2 _ _ e1), sz (by rw [List.length_map, List.length_map, hb60]; show 4 + 60 ≤ 100000; decide), fun p2 hp2 => ⟨p2, _, rfl, .inl ⟨sql upd_same, fun p3 hp3 => ?_⟩⟩⟩⟩⟩
    have s03 := s1.trans (s2.trans s3)
    refine q p3 _ ((s03.trans (same_upd hp2)).free hp3) ((s03.trans (same_upd hp2)).trans (same_upd hp3)) ?_
    rw [upd_same]
    unfold sec chk
    rw [List.map_append]
theorem take2 (k l : Int) (rest : List Int) : cutV ((k :: l :: rest).map V.int) none (some 2) = [V.int k, V.int l] := (cut0n _ 2).trans rfl
theorem cutn0 (xs : List V) (i : Nat) : cutV xs (some (i : Int)) none = xs.drop i := by
  unfold cutV
  rw [sIx_le, HT.sIx_none]
  by_cases hi : i ≤ xs.length
  · rw [Nat.min_eq_left hi, List.take_of_length_le (by rw [List.length_drop]; omega)]
  · have e : min i xs.length = xs.length := by omega
    rw [e, List.drop_of_length_le (Nat.le_refl _), List.drop_of_length_le (show xs.length ≤ i by omega), List.take_nil]
theorem ok_read_sector (T : TX K mg) : FnOk P w K mg base (L2.CX P w) 2 T.a_read_sector T.d_read_sector ["sector"] (sp_read K T.a_Damaged) := by
  refine T.F_read_sector.okX sc_read_sector (fun vs H Q E h => ?_) (fun cdv A outer s H vs Q E hr h => ?_)
  · obtain ⟨a, bs, rfl, _⟩ := h
    rfl
  · obtain ⟨a, bs, rfl, hS, hl, hb, qN, qB, qO⟩ := h
    refine ⟨_, (pss_cons (ps_if (pt_cmpR (op_eqD hr.units) (pv 0) (pe_glob (v := .ref T.ca_BLANK) (by rfl) T.c_BLANK rfl) (nomark _)) (pss_one (ps_ret pe_non)) pss_nil)
      (pss_cons (ps_set (i := 1) sc_read_sector.nd rfl (Or.inl rfl) (pe_slice sl_tup (pv 0) (po_some (pe_glob (v := .int 4) (by rfl) T.c_CHECK_BYTES ⟨_, rfl⟩)) po_none))
      (pss_cons (ps_if (pt_cmpR (op_neD hr.units) (pe_callTy call_list_of (by rfl) T.n_list (by decide +kernel) (pa_cons (pe_slice sl_tup (pv 0) po_none (po_some (pe_glob (v := .int 4) (by rfl) T.c_CHECK_BYTES ⟨_, rfl⟩))) pa_nil)) (pe_call (ok_check_bytes T) (hr.mono (by decide)) (by rfl) T.g_check_bytes T.F_check_bytes.kp T.b_check_bytes .nil pass0 (pa_cons (pe_call (ok_checksumT T) (hr.mono (by decide)) (by rfl) T.g_checksum T.FD_checksum.kp T.bD_checksum_1.choose_spec.2 T.bD_checksum_1.choose_spec.1 pass0 (pa_cons (pv 1) pa_nil)) pa_nil)) (nomark _)) (pss_one (ps_raise rfl (takes_of rfl rfl rfl rfl) (pmk_own PySem.F.excBase_ValueError T.x_Damaged T.g_Damaged T.k_Damaged (raises_own T.s_Damaged T.t_Damaged) rfl))) pss_nil)
      (pss_cons (ps_asg (pe_slice sl_tup (pv 1) po_none (po_some pe_int)) (pg_tup (by rfl) (pgs_cons (pg_name (i := 2) sc_read_sector.nd rfl (Or.inl rfl)) (pgs_cons (pg_name (i := 3) sc_read_sector.nd rfl (Or.inl rfl)) pgs_nil))))
      (pss_cons (ps_if (PW.pt (pw_or (pt_cmpR op_lt (pv 2) pe_int (nomark _)) (pw_or1 (pt_cmpR op_gt (pv 2) (pe_glob (v := .int 9) (by rfl) T.c_MOST_KIND ⟨_, rfl⟩) (nomark _))))) (pss_one (ps_raise rfl (takes_of rfl rfl rfl rfl) (pmk_own PySem.F.excBase_ValueError T.x_Damaged T.g_Damaged T.k_Damaged (raises_own T.s_Damaged T.t_Damaged) rfl))) pss_nil)
      (pss_cons (ps_if (pt_cmpR op_gt (pv 3) (pe_glob (v := .int 58) (by rfl) T.c_PAYLOAD ⟨_, rfl⟩) (nomark _)) (pss_one (ps_raise rfl (takes_of rfl rfl rfl rfl) (pmk_own PySem.F.excBase_ValueError T.x_Damaged T.g_Damaged T.k_Damaged (raises_own T.s_Damaged T.t_Damaged) rfl))) pss_nil)
      (pss_cons (ps_set (i := 4) sc_read_sector.nd rfl (Or.inl rfl) (pe_slice sl_tup (pv 1) (po_some (pe_op op_add pe_int (pv 3))) po_none))
      (pss_cons (ps_if (pt_cmpR (op_neD hr.units) (pv 4) (pe_slice sl_tup (pe_glob (v := .ref T.ca_BLANK) (by rfl) T.c_BLANK rfl) po_none (po_some (pe_callB call_len_seq (by rfl) T.n_len PySem.boot_len (pa_cons (pv 4) pa_nil)))) (nomark _)) (pss_one (ps_raise rfl (takes_of rfl rfl rfl rfl) (pmk_own PySem.F.excBase_ValueError T.x_Damaged T.g_Damaged T.k_Damaged (raises_own T.s_Damaged T.t_Damaged) rfl))) pss_nil)
      (pss_one (ps_ret (pe_tup (pa_cons (pv 2) (pa_cons (pe_callTy call_list_of (by rfl) T.n_list (by decide +kernel) (pa_cons (pe_slice sl_tup (pv 1) (po_some pe_int) (po_some (pe_op op_add pe_int (pv 3)))) pa_nil)) pa_nil))))))))))))), ?_⟩
    have hml : (bs.map V.int).length = 64 := by rw [List.length_map, hl]
    have hB : ∀ H : Hp, SqT K H T.ca_BLANK ((List.replicate 64 (0 : Int)).map V.int) := fun H => T.q_BLANK H
    -- sector == BLANK
    refine ⟨_, rfl, _, _, .tup hS (dpa_ints bs), .tup (hB H) (dpa_ints _), (flat_tints _).sh (by decide), (flat_tints _).sh (by decide), _, rfl, ifb2 (fun hc => ?_) (fun hc => ?_)⟩
    · rw [eqv_tints] at hc
      exact qN (if_pos (of_decide_eq_true hc))
    rw [eqv_tints] at hc
    have hnb : bs ≠ List.replicate 64 0 := of_decide_eq_false hc
    clear hc
    -- body = sector[4:]
    refine ⟨_, rfl, 4, rfl, a, _, rfl, hS, (by rw [hml]; show ¬ (HT.sIx 64 0 (some ((4 : Nat) : Int)) = 0 ∧ _); rw [sIx_le]; omega), fun p hp => ?_⟩
    have ecut : cutV (bs.map V.int) (some 4) none = (bs.drop 4).map V.int := by rw [List.map_drop]; exact cutn0 _ 4
    rw [ecut]
    have s1 := same_upd (o := .tup ((bs.drop 4).map V.int)) hp
    have e1 : (upd H p (.tup ((bs.drop 4).map V.int))) p = some (.tup ((bs.drop 4).map V.int)) := upd_same
    generalize upd H p (.tup ((bs.drop 4).map V.int)) = H1 at s1 e1
    have hS1 := sqt_same s1 hS
    -- the check bytes
    refine ⟨_, rfl, 4, rfl, a, _, rfl, hS1, (by rw [hml]; show ¬ (_ ∧ HT.sIx 64 64 (some ((4 : Nat) : Int)) = 64); rw [sIx_le]; omega), fun p2 hp2 => ?_⟩
    have ecut2 : cutV (bs.map V.int) none (some 4) = (bs.take 4).map V.int := by rw [List.map_take]; exact cut0n _ 4
    rw [ecut2]
    have s2 := s1.trans (same_upd (o := .tup ((bs.take 4).map V.int)) hp2)
    have e12 := same_upd (o := .tup ((bs.take 4).map V.int)) hp2 _ _ e1
    have e2 : (upd H1 p2 (.tup ((bs.take 4).map V.int))) p2 = some (.tup ((bs.take 4).map V.int)) := upd_same
    generalize upd H1 p2 (.tup ((bs.take 4).map V.int)) = H2 at s2 e12 e2
    refine ⟨p2, _, rfl, .inr (sqt e2), fun p3 hp3 => ?_⟩
    have s3 := s2.trans (same_upd (o := .lst ((bs.take 4).map V.int)) hp3)
    have e13 := same_upd (o := .lst ((bs.take 4).map V.int)) hp3 _ _ e12
    have e3 : (upd H2 p3 (.lst ((bs.take 4).map V.int))) p3 = some (.lst ((bs.take 4).map V.int)) := upd_same
    generalize upd H2 p3 (.lst ((bs.take 4).map V.int)) = H3 at s3 e13 e3
    refine ⟨_, rfl, p, T.da_checksum_0, bs.drop 4, 1, 1, rfl, sqt e13, T.dq_checksum_0 _, fun t1 H4 _ s4 e4 => ⟨t1, _, _, rfl, sqt e4, fun c1 H5 _ s5 e5 => ?_⟩⟩
    have s45 := s4.trans s5
    refine ⟨_, _, dp_ints (s45.seq (sql e3)), dp_ints (ns := chk (bs.drop 4)) (sql e5), (flat_ints _).sh (by decide), (flat_ints _).sh (by decide), _, rfl, ?_⟩
    rw [eqv_ints]
    have s05 := s3.trans s45
    have ebody := s45 _ _ e13
    refine ifn (fun hc => ?_) (fun hc => ?_)
    · refine qB ?_ _ s05
      unfold rdS
      rw [if_neg hnb, if_neg hc]
    have hrd : rdS bs = rdB (bs.drop 4) := by
      unfold rdS
      rw [if_neg hnb, if_pos hc]
    clear hc hnb
    -- kind, length
    obtain ⟨k, l, rest, hbd⟩ : ∃ k l rest, bs.drop 4 = k :: l :: rest := by
      cases e : bs.drop 4 with
      | nil => have := congrArg List.length e; rw [List.length_drop, hl] at this; cases this
      | cons k r =>
        cases r with
        | nil => have := congrArg List.length e; rw [List.length_drop, hl] at this; cases this
        | cons l rest => exact ⟨k, l, rest, rfl⟩
    have hrl : rest.length = 58 := by have := congrArg List.length hbd; rw [List.length_drop, hl] at this; simp only [List.length_cons] at this; omega
    have hl0 : 0 ≤ l := (hb l (List.mem_of_mem_drop (by rw [hbd]; exact List.mem_cons_of_mem _ List.mem_cons_self))).1
    rw [hbd] at ebody hrd
    have hbl : ((k :: l :: rest).map V.int).length = 60 := by rw [List.length_map, List.length_cons, List.length_cons, hrl]
    refine ⟨_, rfl, 2, rfl, p, _, rfl, sqt ebody, (by rw [hbl]; show ¬ (_ ∧ HT.sIx 60 60 (some ((2 : Nat) : Int)) = 60); rw [sIx_le]; omega), fun p4 hp4 => ?_⟩
    rw [take2]
    have s6 := s05.trans (same_upd (o := .tup [.int k, .int l]) hp4)
    have e6 := same_upd (o := .tup [.int k, .int l]) hp4 _ _ ebody
    have e64 : (upd H5 p4 (.tup [.int k, .int l])) p4 = some (.tup [.int k, .int l]) := upd_same
    generalize upd H5 p4 (.tup [.int k, .int l]) = H6 at s6 e6 e64
    refine ⟨p4, _, rfl, sqt e64, rfl, .int k, [.int l], rfl, .int l, [], rfl, rfl, ?_⟩
    -- the kind
    refine ⟨_, rfl, _, _, rfl, rfl, _, rfl, ifd (fun hc => ?_) (fun hc => ?_)⟩
    · exact qB (hrd.trans (rdB_kind (.inl hc))) _ s6
    refine ⟨_, rfl, _, _, rfl, rfl, _, rfl, ifd (fun hc2 => ?_) (fun hc2 => ?_)⟩
    · exact qB (hrd.trans (rdB_kind (.inr hc2))) _ s6
    -- the length
    refine ⟨_, rfl, _, _, rfl, rfl, _, rfl, ifd (fun hc3 => ?_) (fun hc3 => ?_)⟩
    · exact qB (hrd.trans (rdB_len hc3)) _ s6
    obtain ⟨n, rfl⟩ : ∃ n : Nat, l = (n : Int) := ⟨l.toNat, by omega⟩
    have hn : n ≤ 58 := by omega
    -- the filling
    refine ⟨_, rfl, _, rfl, _, _, rfl, rfl, _, rfl, p, _, rfl, sqt e6, (by rw [hbl]; show ¬ (HT.sIx 60 0 (some ((2 : Int) + (n : Int))) = 0 ∧ _); rw [show (2 : Int) + (n : Int) = ((2 + n : Nat) : Int) by omega, sIx_le]; omega), fun p5 hp5 => ?_⟩
    have ecut5 : cutV ((k :: (n : Int) :: rest).map V.int) (some ((2 : Int) + (n : Int))) none = (rest.drop n).map V.int := by
      rw [show (2 : Int) + (n : Int) = ((2 + n : Nat) : Int) by omega, cutn0, ← List.map_drop, Nat.add_comm 2 n]
      rfl
    walk_at "go"
    rw [ecut5]
    have s7 := s6.trans (same_upd (o := .tup ((rest.drop n).map V.int)) hp5)
    have e7 := same_upd (o := .tup ((rest.drop n).map V.int)) hp5 _ _ e6
    have e75 : (upd H6 p5 (.tup ((rest.drop n).map V.int))) p5 = some (.tup ((rest.drop n).map V.int)) := upd_same
    generalize upd H6 p5 (.tup ((rest.drop n).map V.int)) = H7 at s7 e7 e75
    have hfl : ((rest.drop n).map V.int).length = 58 - n := by rw [List.length_map, List.length_drop, hrl]
    refine ⟨_, rfl, _, rfl, p5, _, rfl, .inr (sqt e75), _, rfl, T.ca_BLANK, _, rfl, hB H7, (by rw [List.length_map, List.length_replicate, hfl]; show ¬ (_ ∧ HT.sIx 64 64 (some (((58 - n : Nat) : Int))) = 64); rw [sIx_le]; omega), fun p6 hp6 => ?_⟩
    have ecut6 : cutV ((List.replicate 64 (0 : Int)).map V.int) none (some (((rest.drop n).map V.int).length : Int)) = (List.replicate (58 - n) (0 : Int)).map V.int := by
      rw [hfl, cut0n, ← List.map_take, List.take_replicate]
      congr 2
      omega
    rw [ecut6]
    have s8 := s7.trans (same_upd (o := .tup ((List.replicate (58 - n) (0 : Int)).map V.int)) hp6)
    have s78 := same_upd (o := .tup ((List.replicate (58 - n) (0 : Int)).map V.int)) hp6
    refine ⟨_, _, .tup (sqt (s78 _ _ e75)) (dpa_ints _), .tup (sqt upd_same) (dpa_ints _), (flat_tints _).sh (by decide), (flat_tints _).sh (by decide), _, rfl, ?_⟩
    rw [eqv_tints]
    refine ifn (fun hc4 => ?_) (fun hc4 => ?_)
    · refine qB (hrd.trans ?_) _ s8
      rw [rdB_cons, if_neg (by omega), if_neg (by omega), Int.toNat_natCast, List.length_drop, hrl, if_neg hc4]
    have hok : rdS bs = .ok k (rest.take n) := by
      rw [hrd, rdB_cons, if_neg (by omega), if_neg (by omega), Int.toNat_natCast, List.length_drop, hrl, if_pos hc4]
    have e8 := s78 _ _ e7
    generalize upd H7 p6 (.tup ((List.replicate (58 - n) (0 : Int)).map V.int)) = H8 at s8 e8
    refine ⟨_, rfl, _, rfl, 2, rfl, _, rfl, _, _, rfl, rfl, _, rfl, p, _, rfl, sqt e8, (by rw [hbl]; show ¬ (HT.sIx 60 0 (some ((2 : Nat) : Int)) = 0 ∧ _); rw [sIx_le]; omega), fun p7 hp7 => ?_⟩
    have ecut7 : cutV ((k :: (n : Int) :: rest).map V.int) (some 2) (some ((2 : Int) + (n : Int))) = (rest.take n).map V.int := by
      rw [cut_ints (k :: (n : Int) :: rest) (i := 2) (j := 2 + n) (a := 2) (b := 2 + (n : Int)) rfl (by omega), Nat.add_sub_cancel_left]
      rfl
    have s9 := s8.trans (same_upd (o := .tup ((rest.take n).map V.int)) hp7)
    refine ⟨p7, (rest.take n).map V.int, rfl, .inr (sqt (by rw [← ecut7]; exact upd_same)), fun p8 hp8 => ⟨(by show 2 ≤ sizeLine; decide), fun p9 hp9 => ?_⟩⟩
    rw [ecut7] at hp8 hp9 ⊢
    have n89 : p8 ≠ p9 := fun z => by rw [z, upd_same] at hp9; cases hp9
    exact qO _ _ hok p9 p8 _ ((s9.trans (same_upd hp8)).trans (same_upd hp9)) upd_same (by rw [upd_ne n89, upd_same])
end
def sp_sector (K : PySem.W.Frag) : Sp := fun vs H Q _ => ∃ (a : Addr) (b : List Int), vs = [.ref a] ∧ H a = some (.lst (b.map V.int)) ∧ b.length ≤ 1000 ∧ ∀ p H', H p = none → Same H H' → H' p = some (.lst ((sec b).map V.int)) → Q (.ref p) H'
def sp_damaged (K : PySem.W.Frag) : Sp := fun vs H Q _ => ∃ (a : Addr) (bs : List Int), vs = [.ref a] ∧ SqL K H a (bs.map V.int) ∧ bs.length = 64 ∧ Bytes bs ∧ rdS bs = .bad ∧ ∀ H', Same H H' → Q (.bl true) H'
def sp_back (K : PySem.W.Frag) : Sp := fun vs H Q _ => ∃ (a b : Addr) (kind : Int) (pl : List Int), vs = [.ref a, .int kind, .ref b] ∧ SqT K H a ((sec (secBody kind pl)).map V.int) ∧ SqL K H b (pl.map V.int) ∧ pl.length ≤ 58 ∧ 1 ≤ kind ∧ kind ≤ 9 ∧ Bytes pl ∧ ∀ H', Same H H' → Q (.bl true) H'
/-- wrong bodies, each of which is found -/
def Wrong (H : Hp) (v : V) : Prop := ∃ (p : Addr) (b : List Int), v = .ref p ∧ H p = some (.lst (b.map V.int)) ∧ b.length = 60 ∧ Bytes b ∧ rdB b = .bad
theorem wrong_same {G H : Hp} (s : Same G H) {v : V} (h : Wrong G v) : Wrong H v := by
  obtain ⟨p, b, e, h1, h2⟩ := h
  exact ⟨p, b, e, s _ _ h1, h2⟩
def sp_wrong (K : PySem.W.Frag) : Sp := fun vs H Q _ => ∃ (b : Addr) (kind d : Int) (pl : List Int), vs = [.int kind, .ref b, .int d] ∧ H b = some (.lst (pl.map V.int)) ∧ pl.length ≤ 58 ∧ 1 ≤ kind ∧ kind ≤ 9 ∧ Bytes pl ∧ 0 ≤ d ∧
  ∀ p xs H', Same H H' → H' p = some (.lst xs) → (∀ v ∈ xs, Wrong H' v) → Q (.ref p) H'
def sp_law (K : PySem.W.Frag) : Sp := fun vs H Q _ => ∃ (a : Addr) (ns : List Int), vs = [.ref a] ∧ SqL K H a (ns.map V.int) ∧ ns.length ≤ 63 ∧ ∀ H', Q (.bl true) H'
section
variable {P : Program} {w : World} {K : PySem.W.Frag} {mg : Str → Option Value} {base : Heap}
theorem ok__law_sector (T : TX K mg) : FnOk P w K mg base CX0 1 T.a__law_sector T.d__law_sector ["body"] (sp_sector K) := by
  refine T.F__law_sector.ok sc__law_sector (fun vs H Q E h => ?_) (fun cdv A outer s H vs Q E hr h => ?_)
  · obtain ⟨a, bs, rfl, _⟩ := h
    rfl
  · obtain ⟨a, bs, rfl, hS, hl, q⟩ := h
    refine ⟨_, (pss_cons (ps_set (i := 1) sc__law_sector.nd rfl (Or.inl rfl) pe_int)
      (pss_cons (ps_set (i := 2) sc__law_sector.nd rfl (Or.inl rfl) pe_int)
      (pss_cons (ps_for PassesOwn.never rfl (pi_list (pv 0)) (pg_name (i := 3) sc__law_sector.nd rfl (Or.inl rfl))
        (pss_cons (ps_set (i := 1) sc__law_sector.nd rfl (Or.inl rfl) (pe_op op_mod (pe_callTy call_int1 (by rfl) T.n_int (by decide +kernel) (pa_cons (pe_op op_add (pe_op op_add (pv 1) (pv 3)) pe_int) pa_nil)) pe_int))
        (pss_one (ps_set (i := 2) sc__law_sector.nd rfl (Or.inl rfl) (pe_op op_mod (pe_callTy call_int1 (by rfl) T.n_int (by decide +kernel) (pa_cons (pe_op op_add (pv 2) (pv 1)) pa_nil)) pe_int)))))
      (pss_one (ps_ret (pe_op op_cat (pe_lst (pa_cons (pe_op op_mod (pv 1) pe_int) (pa_cons (pe_op op_fdiv (pv 1) pe_int) (pa_cons (pe_op op_mod (pv 2) pe_int) (pa_cons (pe_op op_fdiv (pv 2) pe_int) pa_nil))))) (pv 0))))))), ?_⟩
    refine ⟨_, rfl, a, rfl, ⟨_, sql hS⟩, for_list (K := K) (a := a) (xs := bs.map V.int) (fun i σ H2 => H = H2 ∧ ∃ x4, σ = [some (.ref a), some (.int (sums (1, 1) (bs.take i)).1), some (.int (sums (1, 1) (bs.take i)).2), x4])
      ⟨rfl, none, rfl⟩ (fun i σ H2 _ ⟨e, _⟩ => by rw [← e]; exact sql hS) ?_ ?_⟩
    · rintro i v σ _ hx ⟨rfl, x4, rfl⟩
      obtain ⟨b, hb, rfl⟩ := map_at hx
      have hm := sums_more (s := (1, 1)) hb
      refine ⟨_, rfl, _, rfl, _, _, rfl, rfl, _, _, rfl, rfl, .inl ⟨_, rfl, _, _, rfl, rfl, (by show (0 : Int) < _; decide), ?_⟩⟩
      refine ⟨_, rfl, _, rfl, _, _, rfl, rfl, .inl ⟨_, rfl, _, _, rfl, rfl, (by show (0 : Int) < _; decide), ?_⟩⟩
      refine ⟨rfl, some (.int b), ?_⟩
      rw [hm]
      rfl
    · rintro σ _ ⟨rfl, x4, rfl⟩
      rw [List.length_map, List.take_length]
      refine ⟨_, rfl, _, _, rfl, rfl, (by show (0 : Int) < _; decide), _, rfl, _, _, rfl, rfl, ⟨by decide, by decide⟩, _, rfl, _, _, rfl, rfl, (by show (0 : Int) < _; decide), _, rfl, _, _, rfl, rfl, ⟨by decide, by decide⟩, (by show 4 ≤ sizeLine; decide), fun p hp => ⟨_, rfl, p, a, _, _, rfl, rfl, upd_same, same_upd hp _ _ hS, sz (by rw [List.length_map]; simp only [List.length_cons, List.length_nil]; omega), fun p2 hp2 => ?_⟩⟩
      refine q p2 _ ((same_upd hp).free hp2) ((same_upd hp).trans (same_upd hp2)) ?_
      rw [upd_same]
      unfold sec chk
      rw [List.map_append]
      rfl
theorem ok__law_damaged (T : TX K mg) : FnOk P w K mg base CX0 3 T.a__law_damaged T.d__law_damaged ["row"] (sp_damaged K) := by
  refine T.F__law_damaged.ok sc__law_damaged (fun vs H Q E h => ?_) (fun cdv A outer s H vs Q E hr h => ?_)
  · obtain ⟨a, bs, rfl, _⟩ := h
    rfl
  · obtain ⟨a, bs, rfl, hS, hl, hb, hbad, q⟩ := h
    refine ⟨_, (pss_cons (ps_try_as (i := 2) rfl rfl sc__law_damaged.nd rfl rfl ⟨rfl, by decide, .inl T.g_Damaged⟩ takes0 (fun W pn xe tk po => (pss_one (ps_set (i := 1) sc__law_damaged.nd rfl (Or.inl rfl) (pe_callS (ok_read_sector T) (hr.mono (by decide)) (by rfl) T.g_read_sector T.F_read_sector.kp T.b_read_sector (fun σ => passAt tk σ) (pa_cons (pe_callTy (callK_tuple (K := K) rfl) (by rfl) T.n_tuple (by decide +kernel) (pa_cons (pv 0) pa_nil)) pa_nil))))) (fun a oe cls d pn hz hf => (pss_cons (ps_if (PW.pt (pw_or (pt_val (pe_callB (call_isE1 T.X_Damaged hz hf) (by rfl) T.n_isinstance (by decide +kernel) (pa_cons (pv 2) (pa_cons (pe_glob (v := .ref T.a_Truncated) (by rfl) T.g_Truncated rfl) pa_nil)))) (pw_or (pt_val (pe_callB (call_isE1 T.X_Damaged hz hf) (by rfl) T.n_isinstance (by decide +kernel) (pa_cons (pv 2) (pa_cons (pe_glob (v := .ref T.a_Malformed) (by rfl) T.g_Malformed rfl) pa_nil)))) (pw_or1 (pt_val (pe_callB (call_isE1 T.X_Damaged hz hf) (by rfl) T.n_isinstance (by decide +kernel) (pa_cons (pv 2) (pa_cons (pe_glob (v := .ref T.a_NotAValue) (by rfl) T.g_NotAValue rfl) pa_nil)))))))) (pss_one (ps_ret pe_bl)) pss_nil)
          (pss_one (ps_ret (pe_callB (call_isE1 T.X_Damaged hz hf) (by rfl) T.n_isinstance (by decide +kernel) (pa_cons (pv 2) (pa_cons (pe_glob (v := .ref T.a_CodecError) (by rfl) T.g_CodecError rfl) pa_nil))))))))
      (pss_one (ps_ret pe_bl))), ?_⟩
    refine ⟨_, rfl, a, _, rfl, .inl ⟨hS, fun p hp => ?_⟩⟩
    refine ⟨p, bs, rfl, sqt upd_same, hl, hb, (fun e => by rw [hbad] at e; cases e), (fun _ H' s' => ⟨true, T.ee_Damaged, fun _ a' ha' => ?_, fun z => Bool.noConfusion z⟩), fun k pl e => by rw [hbad] at e; cases e⟩
    refine ⟨_, rfl, rfl, rfl, .ref T.a_Truncated, .ref T.a_Truncated, false, rfl, (fun u h => h), T.y_Damaged_Truncated, false, rfl, ?_⟩
    refine ⟨_, rfl, rfl, rfl, .ref T.a_Malformed, .ref T.a_Malformed, false, rfl, (fun u h => h), T.y_Damaged_Malformed, false, rfl, ?_⟩
    refine ⟨_, rfl, rfl, rfl, .ref T.a_NotAValue, .ref T.a_NotAValue, false, rfl, (fun u h => h), T.y_Damaged_NotAValue, false, rfl, ?_⟩
    exact ⟨_, rfl, rfl, rfl, .ref T.a_CodecError, .ref T.a_CodecError, true, rfl, (fun u h => h), T.y_Damaged_CodecError, q _ ((same_upd hp).trans s')⟩
theorem ok__law_read_back (T : TX K mg) : FnOk P w K mg base CX0 3 T.a__law_read_back T.d__law_read_back ["sector", "kind", "payload"] (sp_back K) := by
  refine T.F__law_read_back.ok sc__law_read_back (fun vs H Q E h => ?_) (fun cdv A outer s H vs Q E hr h => ?_)
  · obtain ⟨a, b, kind, pl, rfl, _⟩ := h
    rfl
  · obtain ⟨a, b, kind, pl, rfl, hS, hB, hl, h1, h9, hp, q⟩ := h
    refine ⟨_, (pss_cons (ps_set (i := 3) sc__law_read_back.nd rfl (Or.inl rfl) (pe_call (ok_read_sector T) (hr.mono (by decide)) (by rfl) T.g_read_sector T.F_read_sector.kp T.b_read_sector .nil passL (pa_cons (pv 0) pa_nil)))
      (pss_cons (ps_if (PW.pt (pw_or (pt_not (pt_val (pe_callB call_isi (by rfl) T.n_isinstance (by decide +kernel) (pa_cons (pv 3) (pa_cons (pe_bltn (v := .ty "tuple") (u := .type "tuple") (by rfl) T.n_tuple (by decide +kernel) rfl) pa_nil))))) (pw_or (pt_cmpR op_ne (pe_callB call_len_seq (by rfl) T.n_len PySem.boot_len (pa_cons (pv 3) pa_nil)) pe_int (nomark _)) (pw_or1 (pt_not (pt_val (pe_call (ok__law_is_integer T) (hr.mono (by decide)) (by rfl) T.g__law_is_integer T.F__law_is_integer.kp T.b__law_is_integer .nil pass0 (pa_cons (pe_ix ix_tup (pv 3) pe_int (fun _ _ => rfl)) pa_nil)))))))) (pss_one (ps_ret pe_bl)) pss_nil)
      (pss_cons (ps_if (PW.pt (pw_or (pt_not (pt_val (pe_callB call_isi (by rfl) T.n_isinstance (by decide +kernel) (pa_cons (pe_ix ix_tup (pv 3) pe_int (fun _ _ => rfl)) (pa_cons (pe_bltn (v := .ty "list") (u := .type "list") (by rfl) T.n_list (by decide +kernel) rfl) pa_nil))))) (pw_or1 (pt_cmpR op_ne (pe_callB call_len_seq (by rfl) T.n_len PySem.boot_len (pa_cons (pe_ix ix_tup (pv 3) pe_int (fun _ _ => rfl)) pa_nil)) (pe_callB call_len_seq (by rfl) T.n_len PySem.boot_len (pa_cons (pv 2) pa_nil)) (nomark _))))) (pss_one (ps_ret pe_bl)) pss_nil)
      (pss_cons (ps_for PassesOwn.never rfl (pi_range1 (by rfl) T.n_range (pa_cons (pe_callB call_len_seq (by rfl) T.n_len PySem.boot_len (pa_cons (pv 2) pa_nil)) pa_nil)) (pg_name (i := 4) sc__law_read_back.nd rfl (Or.inl rfl))
        (pss_one (ps_if (PW.pt (pw_or (pt_not (pt_val (pe_call (ok__law_is_integer T) (hr.mono (by decide)) (by rfl) T.g__law_is_integer T.F__law_is_integer.kp T.b__law_is_integer .nil pass0 (pa_cons (pe_ix ix_list (pe_ix ix_tup (pv 3) pe_int (fun _ _ => rfl)) (pv 4) (fun _ _ => rfl)) pa_nil)))) (pw_or1 (pt_cmpR op_ne (pe_ix ix_list (pe_ix ix_tup (pv 3) pe_int (fun _ _ => rfl)) (pv 4) (fun _ _ => rfl)) (pe_ix ix_list (pv 2) (pv 4) (fun _ _ => rfl)) (nomark _))))) (pss_one (ps_ret pe_bl)) pss_nil)))
      (pss_one (ps_ret (pe_cmpR op_eq (pe_ix ix_tup (pv 3) pe_int (fun _ _ => rfl)) (pv 1) (nomark _)))))))), ?_⟩
    have hrd := rd_right hl h1 h9
    have hb60 := body_len (kind := kind) hl
    have hml : (pl.map V.int).length = pl.length := List.length_map _
    have hby : Bytes (sec (secBody kind pl)) := fun x hx => by
      rcases List.mem_append.mp hx with h | h
      · have g := sums_pos (1, 1) (bs := secBody kind pl) (fun z => by rw [z] at hb60; cases hb60)
        unfold chk at h
        simp only [List.mem_cons, List.not_mem_nil, or_false] at h
        omega
      · exact body_bytes hl (by omega) (by omega) hp x h
    refine ⟨_, rfl, a, _, rfl, hS, (by unfold sec; rw [List.length_append, hb60]; rfl), hby, (fun e => by rw [hrd] at e; cases e), (fun e => by rw [hrd] at e; cases e), fun k' pl' e p pq H' s' ep eq => ?_⟩
    rw [hrd] at e
    obtain ⟨rfl, rfl⟩ : kind = k' ∧ pl = pl' := by cases e; exact ⟨rfl, rfl⟩
    have t0 : atI [V.int kind, V.ref pq] 0 = some (.int kind) := atI_nat (j := 0) rfl
    have t1 : atI [V.int kind, V.ref pq] 1 = some (.ref pq) := atI_nat (j := 1) rfl
    refine ⟨_, rfl, _, .ty "tuple", .type "tuple", .type "tuple", true, rfl, .ty _, tyx_t (sqt ep), kit_ty (by decide +kernel), true, rfl, ?_⟩
    refine ⟨_, rfl, p, _, rfl, .inr (sqt ep), rfl, _, rfl, ifnt rfl ?_⟩
    refine ⟨_, rfl, p, _, 0, _, rfl, rfl, sqt ep, t0, _, rfl, true, rfl, ?_⟩
    refine ⟨_, rfl, p, _, 1, _, rfl, rfl, sqt ep, t1, _, .ty "list", .type "list", .type "list", true, rfl, .ty _, tyx_l (sql eq), kit_ty (by decide +kernel), true, rfl, ?_⟩
    refine ⟨_, rfl, p, _, 1, _, rfl, rfl, sqt ep, t1, pq, _, rfl, .inl (sql eq), _, rfl, b, _, rfl, .inl (s'.seq hB), rfl, _, rfl, ifnt rfl ?_⟩
    refine ⟨_, rfl, b, _, rfl, .inl (s'.seq hB), _, rfl, by rw [hml]; omega, by rw [hml]; omega, for_range (lo := 0) (n := _) (fun i σ H2 => H' = H2 ∧ ∃ x4, σ = [some (.ref a), some (.int kind), some (.ref b), some (.ref p), x4])
      ⟨rfl, none, rfl⟩ ?_ ?_⟩
    · rintro i σ _ hi ⟨rfl, x4, rfl⟩
      rw [hml] at hi
      have hg : pl[i]? = some pl[i] := List.getElem?_eq_getElem (by omega)
      have ga : atI (pl.map V.int) (0 + (i : Int)) = some (.int pl[i]) := by rw [Int.zero_add]; exact at_map hg
      refine ⟨_, rfl, p, _, 1, _, rfl, rfl, sqt ep, t1, _, rfl, pq, _, _, _, rfl, rfl, sql eq, ga, _, rfl, true, rfl, ?_⟩
      refine ⟨_, rfl, p, _, 1, _, rfl, rfl, sqt ep, t1, _, rfl, pq, _, _, _, rfl, rfl, sql eq, ga, _, rfl, _, rfl, b, _, _, _, rfl, rfl, s'.seq hB, ga, rfl, _, rfl, ifnt rfl ?_⟩
      exact ⟨rfl, _, rfl⟩
    · rintro σ _ ⟨rfl, x4, rfl⟩
      refine ⟨_, rfl, p, _, 0, _, rfl, rfl, sqt ep, t0, _, rfl, rfl, ?_⟩
      rw [decide_eq_true rfl]
      exact q _ s'
def bd (x y : Int) (pl rs : List Int) : List Int := [x, y] ++ pl ++ rs
theorem bd_map (x y : Int) (pl rs : List Int) : [V.int x, V.int y] ++ pl.map V.int ++ rs.map V.int = (bd x y pl rs).map V.int := by
  unfold bd
  rw [List.map_append, List.map_append]
  rfl
theorem bd_bytes {x y : Int} {pl rs : List Int} (hx : 0 ≤ x ∧ x < 256) (hy : 0 ≤ y ∧ y < 256) (hp : Bytes pl) (hr : Bytes rs) : Bytes (bd x y pl rs) := fun b hb => by
  unfold bd at hb
  rcases List.mem_append.mp hb with hb | hb
  · rcases List.mem_append.mp hb with hb | hb
    · simp only [List.mem_cons, List.not_mem_nil, or_false] at hb
      rcases hb with rfl | rfl
      · exact hx
      · exact hy
    · exact hp b hb
  · exact hr b hb
theorem rep_bytes (n : Nat) : Bytes (List.replicate n 0) := fun b hb => by
  have := (List.mem_replicate.mp hb).2
  omega
theorem ok__law_wrong_bodies (T : TX K mg) : FnOk P w K mg base CX0 1 T.a__law_wrong_bodies T.d__law_wrong_bodies ["kind", "payload", "draw"] (sp_wrong K) := by
  refine T.F__law_wrong_bodies.ok sc__law_wrong_bodies (fun vs H Q E h => ?_) (fun cdv A outer s H vs Q E hr h => ?_)
  · obtain ⟨b, kind, d, pl, rfl, _⟩ := h
    rfl
  · obtain ⟨b, kind, d, pl, rfl, eb, hl, h1, h9, hp, hd, q⟩ := h
    refine ⟨_, (pss_cons (ps_set (i := 3) sc__law_wrong_bodies.nd rfl (Or.inl rfl) (pe_callB call_len_seq (by rfl) T.n_len PySem.boot_len (pa_cons (pv 1) pa_nil)))
      (pss_cons (ps_set (i := 4) sc__law_wrong_bodies.nd rfl (Or.inl rfl) (pe_op op_rep (pe_lst (pa_cons pe_int pa_nil)) (pe_op op_sub pe_int (pv 3))))
      (pss_cons (ps_set (i := 5) sc__law_wrong_bodies.nd rfl (Or.inl rfl) (pe_lst (pa_cons (pe_op op_cat (pe_op op_cat (pe_lst (pa_cons pe_int (pa_cons (pv 3) pa_nil))) (pv 1)) (pv 4)) (pa_cons (pe_op op_cat (pe_op op_cat (pe_lst (pa_cons (pe_op op_add pe_int (pe_op op_mod (pv 2) pe_int)) (pa_cons (pv 3) pa_nil))) (pv 1)) (pv 4)) (pa_cons (pe_op op_cat (pe_op op_cat (pe_lst (pa_cons (pv 0) (pa_cons (pe_op op_add pe_int (pe_op op_mod (pv 2) pe_int)) pa_nil))) (pv 1)) (pv 4)) pa_nil)))))
      (pss_cons (ps_if (pt_cmpR op_lt (pv 3) pe_int (nomark _)) (pss_cons (ps_asg (pe_op op_add pe_int (pe_op op_mod (pv 2) pe_int)) (pg_sub (pv 4) (pe_op op_mod (pv 2) (pe_op op_sub pe_int (pv 3))) set_list))
        (pss_one (ps_expr (pe_bm PySem.F.plainAttrs_list PySem.F.slot_list_append PySem.F.type_list_append mt_append (pv 5) (pa_cons (pe_op op_cat (pe_op op_cat (pe_lst (pa_cons (pv 0) (pa_cons (pv 3) pa_nil))) (pv 1)) (pv 4)) pa_nil))))) pss_nil)
      (pss_one (ps_ret (pv 5))))))), ?_⟩
    have hml : (pl.map V.int).length = pl.length := List.length_map _
    refine ⟨_, rfl, b, _, rfl, .inl (sql eb), ?_⟩
    walk_at "go"
    rw [hml]
    -- rest
    refine EN.use (en_rep (el_lst (ea_cons ei_c ea_nil) (by show 1 ≤ 90000; decide)) (ei_i0 ei_c (ei_var rfl)) (by omega) (by omega) (by show 1 * _ ≤ 90000; omega)) (fun pr H1 hpr s1 er => ?_)
    rw [rep0, show ((58 : Int) - (pl.length : Int)).toNat = 58 - pl.length by omega] at er
    have eb1 := s1 _ _ eb
    have hrl : (List.replicate (58 - pl.length) (0 : Int)).length = 58 - pl.length := List.length_replicate
    have hrb := rep_bytes (58 - pl.length)
    have sz1 : ∀ x y : V, [x, y].length + (pl.map V.int).length ≤ 90000 := fun x y => by rw [hml]; simp only [List.length_cons, List.length_nil]; omega
    have sz2 : ∀ (x y : V) (rs : List Int), rs.length ≤ 58 → ([x, y] ++ pl.map V.int).length + (rs.map V.int).length ≤ 90000 := fun x y rs hrs => by rw [List.length_append, hml, List.length_map]; simp only [List.length_cons, List.length_nil]; omega
    generalize hrs : List.replicate (58 - pl.length) (0 : Int) = rs at er hrl hrb
    -- the bodies
    walk_at "go"
    dsimp only [L2.tLst, L2.tCons, L2.tNil]
    refine EL.use (el_cat (el_cat (el_lst (ea_cons ei_c (ea_cons (ei_var rfl) ea_nil)) (by show 2 ≤ 90000; decide)) (el_var rfl eb1) (sz1 _ _)) (el_var rfl er) (sz2 _ _ _ (by omega))) (fun p1 H2 s2 e1 => ?_)
    have eb2 := s2 _ _ eb1
    have er2 := s2 _ _ er
    refine EL.use (el_cat (el_cat (el_lst (ea_cons (ei_i0 ei_c (ei_ic (ei_var rfl) ei_c (by show (0 : Int) < _; decide))) (ea_cons (ei_var rfl) ea_nil)) (by show 2 ≤ 90000; decide)) (el_var rfl eb2) (sz1 _ _)) (el_var rfl er2) (sz2 _ _ _ (by omega))) (fun p2 H3 s3 e2 => ?_)
    have eb3 := s3 _ _ eb2
    have er3 := s3 _ _ er2
    refine EL.use (el_cat (el_cat (el_lst (ea_cons (ei_var rfl) (ea_cons (ei_i0 ei_c (ei_ic (ei_var rfl) ei_c (by show (0 : Int) < _; decide))) ea_nil)) (by show 2 ≤ 90000; decide)) (el_var rfl eb3) (sz1 _ _)) (el_var rfl er3) (sz2 _ _ _ (by omega))) (fun p3 H4 s4 e3 => ?_)
    have eb4 := s4 _ _ eb3
    have er4 := s4 _ _ er3
    rw [bd_map] at e1 e2 e3
    have bl : ∀ x y : Int, (bd x y pl rs).length = 60 := fun x y => by
      unfold bd
      rw [List.length_append, List.length_append, hrl]
      simp only [List.length_cons, List.length_nil]
      omega
    have w1 : Wrong H4 (.ref p1) := ⟨p1, _, rfl, s4 _ _ (s3 _ _ e1), bl _ _, bd_bytes (by omega) (by omega) hp hrb, rdB_kind (.inl (by decide))⟩
    have w2 : Wrong H4 (.ref p2) := ⟨p2, _, rfl, s4 _ _ e2, bl _ _, bd_bytes (by omega) (by omega) hp hrb, rdB_kind (.inr (by omega))⟩
    have w3 : Wrong H4 (.ref p3) := ⟨p3, _, rfl, e3, bl _ _, bd_bytes (by omega) (by omega) hp hrb, rdB_len (by omega)⟩
    refine ⟨(by show 3 ≤ sizeLine; decide), fun pb hpb => ?_⟩
    have s5 := same_upd (o := .lst [.ref p1, .ref p2, .ref p3]) hpb
    have e5 : (upd H4 pb (.lst [.ref p1, .ref p2, .ref p3])) pb = some (.lst [.ref p1, .ref p2, .ref p3]) := upd_same
    have eb5 := s5 _ _ eb4
    have er5 := s5 _ _ er4
    have w1' := wrong_same s5 w1
    have w2' := wrong_same s5 w2
    have w3' := wrong_same s5 w3
    have s15 := s2.trans (s3.trans (s4.trans s5))
    have nbr : pr ≠ pb := ne_of_none er4 hpb
    generalize upd H4 pb (.lst [.ref p1, .ref p2, .ref p3]) = H5 at s5 e5 eb5 er5 w1' w2' w3' s15
    have s05 := s1.trans s15
    refine ⟨_, rfl, _, _, rfl, rfl, _, rfl, ifd (fun hc => ?_) (fun hc => ?_)⟩
    · -- a filling byte that is not nothing
      have hpos : (0 : Int) < 58 - (pl.length : Int) := by omega
      obtain ⟨t, ht, htl⟩ : ∃ t : Nat, d % (58 - (pl.length : Int)) = (t : Int) ∧ t < 58 - pl.length := by
        have a1 := Int.emod_nonneg d (show (58 : Int) - (pl.length : Int) ≠ 0 by omega)
        have a2 := Int.emod_lt_of_pos d hpos
        exact ⟨(d % (58 - (pl.length : Int))).toNat, by omega, by omega⟩
      have hrml : (rs.map V.int).length = 58 - pl.length := by rw [List.length_map, hrl]
      refine ⟨_, rfl, _, _, rfl, rfl, (by show (0 : Int) < _; decide), _, _, rfl, rfl, _, rfl, _, rfl, _, rfl, _, _, rfl, rfl, _, _, rfl, rfl, hpos, pr, _, _, t, rfl, rfl, er5, ixn ht (by rw [hrml]; exact htl), ?_⟩
      have er6 : (upd H5 pr (.lst ((rs.map V.int).set t (.int (1 + d % 255))))) pr = some (.lst ((rs.set t (1 + d % 255)).map V.int)) := by rw [upd_same]; simp only [List.map_set]
      have s06 : Same H (upd H5 pr (.lst ((rs.map V.int).set t (.int (1 + d % 255))))) := same_put s05 hpr
      have keep : ∀ a o, H5 a = some o → a ≠ pr → (upd H5 pr (.lst ((rs.map V.int).set t (.int (1 + d % 255))))) a = some o := fun a o e h => by rw [upd_ne h]; exact e
      have wk : ∀ p, Wrong H5 (.ref p) → Wrong (upd H5 pr (.lst ((rs.map V.int).set t (.int (1 + d % 255))))) (.ref p) := fun p h => by
        obtain ⟨p', b', e, g1, g2, g3, g4⟩ := h
        cases e
        refine ⟨p, b', rfl, keep _ _ g1 (fun z => ?_), g2, g3, g4⟩
        rw [z, er5] at g1
        have := Option.some.inj g1
        injection this with this
        have := congrArg List.length this
        rw [List.length_map, List.length_map, hrl, g2] at this
        omega
      have u1 := wk _ w1'
      have u2 := wk _ w2'
      have u3 := wk _ w3'
      have eb6 := keep _ _ eb5 (fun z => by rw [z] at eb; rw [hpr] at eb; cases eb)
      have e56 := keep _ _ e5 nbr.symm
      generalize upd H5 pr (.lst ((rs.map V.int).set t (.int (1 + d % 255)))) = H6 at er6 s06 u1 u2 u3 eb6 e56
      have hr2 : (rs.set t (1 + d % 255)).length = 58 - pl.length := by rw [List.length_set, hrl]
      refine ⟨_, rfl, .inl ⟨rfl, _, sql e56⟩, ?_⟩
      dsimp only [L2.tCons, L2.tNil]
      refine EL.use (el_cat (el_cat (el_lst (ea_cons (ei_var rfl) (ea_cons (ei_var rfl) ea_nil)) (by show 2 ≤ 90000; decide)) (el_var rfl eb6) (sz1 _ _)) (el_var rfl er6) (sz2 _ _ _ (by omega))) (fun p4 H7 s7 e4 => ?_)
      rw [bd_map] at e4
      have bl2 : (bd kind (pl.length : Int) pl (rs.set t (1 + d % 255))).length = 60 := by
        unfold bd
        rw [List.length_append, List.length_append, hr2]
        simp only [List.length_cons, List.length_nil]
        omega
      have by2 : Bytes (rs.set t (1 + d % 255)) := fun b hb => by
        rcases List.mem_or_eq_of_mem_set hb with h | h
        · exact hrb b h
        · omega
      have u4 : Wrong H7 (.ref p4) := by
        refine ⟨p4, _, rfl, e4, bl2, bd_bytes (by omega) (by omega) hp by2, ?_⟩
        show rdB (kind :: (pl.length : Int) :: (pl ++ rs.set t (1 + d % 255))) = .bad
        refine rdB_fill (t := pl.length + t) (x := 1 + d % 255) (by omega) ?_ (by omega)
        rw [List.getElem?_append_right (by omega), Nat.add_sub_cancel_left, List.getElem?_set_self (by omega)]
      have e57 := s7 _ _ e56
      refine ⟨pb, _, _, rfl, rfl, e57, szl (by show 3 ≤ 100000; decide), ?_⟩
      have hpbH : H pb = none := (s1.trans (s2.trans (s3.trans s4))).free hpb
      refine ⟨_, rfl, q pb _ _ (same_put (s06.trans s7) hpbH) upd_same ?_⟩
      have wl : ∀ p, Wrong H7 (.ref p) → Wrong (upd H7 pb (.lst ([.ref p1, .ref p2, .ref p3] ++ [.ref p4]))) (.ref p) := fun p h => by
        obtain ⟨p', b', e, g1, g2, g3, g4⟩ := h
        cases e
        refine ⟨p, b', rfl, ?_, g2, g3, g4⟩
        rw [upd_ne (fun z => ?_)]
        · exact g1
        · rw [z, e57] at g1
          have := Option.some.inj g1
          injection this with this
          have := congrArg List.length this
          rw [List.length_map, g2] at this
          simp at this
      intro v hv
      simp only [List.cons_append, List.nil_append, List.mem_cons, List.not_mem_nil, or_false] at hv
      rcases hv with rfl | rfl | rfl | rfl
      · exact wl _ (wrong_same s7 u1)
      · exact wl _ (wrong_same s7 u2)
      · exact wl _ (wrong_same s7 u3)
      · exact wl _ u4
    · refine ⟨_, rfl, q pb _ _ s05 e5 fun v hv => ?_⟩
      simp only [List.mem_cons, List.not_mem_nil, or_false] at hv
      rcases hv with rfl | rfl | rfl
      · exact w1'
      · exact w2'
      · exact w3'
theorem ok_law (T : TX K mg) : FnOk P w K mg base CX0 4 T.a_law T.d_law ["script"] (sp_law K) := by
  refine T.F_law.ok sc_law (fun vs H Q E h => ?_) (fun cdv A outer s H vs Q E hr h => ?_)
  · obtain ⟨a, ns, rfl, _⟩ := h
    rfl
  · obtain ⟨a, ns, rfl, hS, hlen, q⟩ := h
    refine ⟨_, (pss_cons (ps_set (i := 1) sc_law.nd rfl (Or.inl rfl) (pe_call (ok__law_draws T) (hr.mono (by decide)) (by rfl) T.g__law_draws T.F__law_draws.kp T.b__law_draws .nil pass0 (pa_cons (pv 0) (pa_cons pe_int pa_nil))))
      (pss_cons (ps_set (i := 2) sc_law.nd rfl (Or.inl rfl) (pe_op op_add pe_int (pe_op op_mod (pe_callTy call_int1 (by rfl) T.n_int (by decide +kernel) (pa_cons (pe_ix ix_list (pv 1) pe_int (fun _ _ => rfl)) pa_nil)) pe_int)))
      (pss_cons (ps_setLc (i := 3) (own := [("draw", 11)]) (g := gName 11) (tt := tYes) (by rfl) sc_law.nd rfl rfl (sw_true rfl rfl rfl (by decide +kernel)) (pi_list (pe_slice sl_list (pv 1) (po_some pe_int) (po_some (pe_op op_add pe_int (pe_op op_mod (pe_ix ix_list (pv 1) pe_int (fun _ _ => rfl)) pe_int))))) (blkOk_by (own := [("draw", 11)]) (N := ["script", "draws", "kind", "payload", "row", "passed", "sector", "k", "part", "changed", "body", "draw"]) (sc := defScope s_law) (by decide +kernel)) (fun _ _ _ _ _ => pg_name (i := 11) sc_law.nd rfl (Or.inl rfl)) (fun _ _ _ _ _ => pts_nil) (fun _ _ _ _ _ => (pe_op op_mod (pe_callTy call_int1 (by rfl) T.n_int (by decide +kernel) (pa_cons (pv 11) pa_nil)) pe_int)))
      (C8.pss_cut (ps_if (pt_cmpR op_eq (pe_op op_mod (pe_ix ix_list (pv 1) pe_int (fun _ _ => rfl)) pe_int) pe_int (nomark _)) (pss_one (ps_set (i := 3) sc_law.nd rfl (Or.inl rfl) (pe_op op_rep (pe_lst (pa_cons pe_int pa_nil)) (pe_callB call_len_seq (by rfl) T.n_len PySem.boot_len (pa_cons (pv 3) pa_nil))))) pss_nil)
      (pss_cons (ps_set (i := 4) sc_law.nd rfl (Or.inl rfl) (pe_call (ok__law_sector T) (hr.mono (by decide)) (by rfl) T.g__law_sector T.F__law_sector.kp T.b__law_sector .nil pass0 (pa_cons (pe_op op_cat (pe_op op_cat (pe_lst (pa_cons (pv 2) (pa_cons (pe_callB call_len_seq (by rfl) T.n_len PySem.boot_len (pa_cons (pv 3) pa_nil)) pa_nil))) (pv 3)) (pe_op op_rep (pe_lst (pa_cons pe_int pa_nil)) (pe_op op_sub pe_int (pe_callB call_len_seq (by rfl) T.n_len PySem.boot_len (pa_cons (pv 3) pa_nil))))) pa_nil)))
      (pss_cons (ps_set (i := 5) sc_law.nd rfl (Or.inl rfl) (pe_callTy call_list_of (by rfl) T.n_list (by decide +kernel) (pa_cons (pv 3) pa_nil)))
      (pss_cons (ps_set (i := 6) sc_law.nd rfl (Or.inl rfl) (pe_call (ok_make_sector T) (hr.mono (by decide)) (by rfl) T.g_make_sector T.F_make_sector.kp T.b_make_sector .nil pass0 (pa_cons (pv 2) (pa_cons (pv 5) pa_nil))))
      (pss_cons (ps_if (PW.pt (pw_or (pt_not (pt_val (pe_callB call_isi (by rfl) T.n_isinstance (by decide +kernel) (pa_cons (pv 6) (pa_cons (pe_bltn (v := .ty "tuple") (u := .type "tuple") (by rfl) T.n_tuple (by decide +kernel) rfl) pa_nil))))) (pw_or (pt_cmpR (op_neD hr.units) (pv 6) (pe_callTy call_tuple_of (by rfl) T.n_tuple (by decide +kernel) (pa_cons (pv 4) pa_nil)) (nomark _)) (pw_or1 (pt_cmpR (op_neD hr.units) (pv 5) (pv 3) (nomark _)))))) (pss_one (ps_ret pe_bl)) pss_nil)
      (pss_cons (ps_if (PW.pt (pw_or (pt_not (pt_val (pe_call (ok__law_read_back T) (hr.mono (by decide)) (by rfl) T.g__law_read_back T.F__law_read_back.kp T.b__law_read_back .nil pass0 (pa_cons (pv 6) (pa_cons (pv 2) (pa_cons (pv 3) pa_nil)))))) (pw_or1 (pt_cmpR op_notN (pe_call (ok_read_sector T) (hr.mono (by decide)) (by rfl) T.g_read_sector T.F_read_sector.kp T.b_read_sector .nil passL (pa_cons (pe_glob (v := .ref T.ca_BLANK) (by rfl) T.c_BLANK rfl) pa_nil)) pe_non (nomark _))))) (pss_one (ps_ret pe_bl)) pss_nil)
      (pss_cons (ps_if (PW.pt (pw_or (pt_cmpR (op_neD hr.units) (pe_glob (v := .ref T.ca_BLANK) (by rfl) T.c_BLANK rfl) (pe_callTy call_tuple_of (by rfl) T.n_tuple (by decide +kernel) (pa_cons (pe_op op_rep (pe_lst (pa_cons pe_int pa_nil)) pe_int) pa_nil)) (nomark _)) (pw_or (pt_cmpR op_ne (pe_glob (v := .int 64) (by rfl) T.c_SECTOR ⟨_, rfl⟩) pe_int (nomark _)) (pw_or1 (pt_cmpR op_ne (pe_glob (v := .int 58) (by rfl) T.c_PAYLOAD ⟨_, rfl⟩) pe_int (nomark _)))))) (pss_one (ps_ret pe_bl)) pss_nil)
      (pss_cons (ps_for PassesOwn.never rfl (pi_range1 (by rfl) T.n_range (pa_cons pe_int pa_nil)) (pg_name (i := 7) sc_law.nd rfl (Or.inl rfl))
        (pss_cons (ps_set (i := 8) sc_law.nd rfl (Or.inl rfl) (pe_slice sl_list (pv 1) (po_some (pe_op op_add pe_int (pe_op op_mul pe_int (pv 7)))) (po_some (pe_op op_add pe_int (pe_op op_mul pe_int (pv 7))))))
        (pss_cons (ps_set (i := 9) sc_law.nd rfl (Or.inl rfl) (pe_callTy call_list_of (by rfl) T.n_list (by decide +kernel) (pa_cons (pv 4) pa_nil)))
        (pss_cons (ps_asg (pe_op op_mod (pe_callTy call_int1 (by rfl) T.n_int (by decide +kernel) (pa_cons (pe_ix ix_list (pv 8) pe_int (fun _ _ => rfl)) pa_nil)) pe_int) (pg_sub (pv 9) (pe_op op_mod (pe_callTy call_int1 (by rfl) T.n_int (by decide +kernel) (pa_cons (pe_ix ix_list (pv 8) pe_int (fun _ _ => rfl)) pa_nil)) pe_int) set_list))
        (C8.pss_cut (ps_if (pt_cmpR op_gt (pe_op op_mod (pv 7) pe_int) pe_int (nomark _)) (pss_one (ps_asg (pe_op op_mod (pe_callTy call_int1 (by rfl) T.n_int (by decide +kernel) (pa_cons (pe_ix ix_list (pv 8) pe_int (fun _ _ => rfl)) pa_nil)) (pe_op op_add pe_int (pe_op op_mul pe_int (pe_op op_mod (pv 7) pe_int)))) (pg_sub (pv 9) (pe_op op_mod (pe_callTy call_int1 (by rfl) T.n_int (by decide +kernel) (pa_cons (pe_ix ix_list (pv 8) pe_int (fun _ _ => rfl)) pa_nil)) pe_int) set_list))) pss_nil)
        (pss_one (ps_if (PW.pt (pw_and (pt_cmpR (op_neD hr.units) (pv 9) (pv 4) (nomark _)) (pw_and1 (pt_not (pt_val (pe_call (ok__law_damaged T) (hr.mono (by decide)) (by rfl) T.g__law_damaged T.F__law_damaged.kp T.b__law_damaged .nil pass0 (pa_cons (pv 9) pa_nil))))))) (pss_one (ps_ret pe_bl)) pss_nil)))))))
      (pss_cons (ps_for PassesOwn.never rfl (pi_list (pe_call (ok__law_wrong_bodies T) (hr.mono (by decide)) (by rfl) T.g__law_wrong_bodies T.F__law_wrong_bodies.kp T.b__law_wrong_bodies .nil pass0 (pa_cons (pv 2) (pa_cons (pv 3) (pa_cons (pe_ix ix_list (pv 1) pe_int (fun _ _ => rfl)) pa_nil))))) (pg_name (i := 10) sc_law.nd rfl (Or.inl rfl))
        (pss_one (ps_if (pt_not (pt_val (pe_call (ok__law_damaged T) (hr.mono (by decide)) (by rfl) T.g__law_damaged T.F__law_damaged.kp T.b__law_damaged .nil pass0 (pa_cons (pe_call (ok__law_sector T) (hr.mono (by decide)) (by rfl) T.g__law_sector T.F__law_sector.kp T.b__law_sector .nil pass0 (pa_cons (pv 10) pa_nil)) pa_nil)))) (pss_one (ps_ret pe_bl)) pss_nil)))
      (pss_one (ps_ret pe_bl)))))))))))))), ?_⟩
    -- the draws
    refine ⟨_, rfl, a, ns, 120, rfl, hS, hlen, by decide, fun pd H1 ds hpd s1 e1 hd hdl => ?_⟩
    have hat : ∀ k : Nat, k < 120 → ∃ d, ds[k]? = some d ∧ 0 ≤ d ∧ d < 997 := fun k hk => by
      have hk' : k < ds.length := by omega
      exact ⟨ds[k], List.getElem?_eq_getElem hk', hd _ (List.getElem_mem hk')⟩
    obtain ⟨d0, hd0, a0, b0⟩ := hat 0 (by decide)
    obtain ⟨d1, hd1, a1, b1⟩ := hat 1 (by decide)
    obtain ⟨dz, hdz, az, bz⟩ := hat 119 (by decide)
    have gt : ∀ {k : Nat} {d : Int}, ds[k]? = some d → atI (ds.map V.int) (k : Int) = some (.int d) := fun h => at_map h
    -- kind
    refine ⟨_, rfl, pd, _, 0, _, rfl, rfl, sql e1, gt hd0, .inl ⟨_, rfl, _, _, rfl, rfl, (by show (0 : Int) < _; decide), _, _, rfl, rfl, ?_⟩⟩
    dsimp only
    have hk1 : 1 ≤ 1 + d0 % 9 ∧ 1 + d0 % 9 ≤ 9 := by omega
    generalize 1 + d0 % 9 = kind at hk1
    -- payload
    obtain ⟨j1, hj1⟩ : ∃ j1 : Nat, 2 + d1 % 59 = (j1 : Int) := ⟨(2 + d1 % 59).toNat, by omega⟩
    walk_at "go"
    refine lc_cut (K := K) (((ds.drop 2).take (j1 - 2)).map V.int) (fun v => match v with | .int i => .int (i % 256) | u => u) (fun R h => ?_) ?_ ?_ (fun i x G Q' hx hG h => ?_) (fun o1 H2 ho1 s2 e2 => ?_)
    · rw [← cut_ints ds (i := 2) (a := 2) rfl hj1] at h
      exact ⟨_, rfl, 2, rfl, _, rfl, pd, _, 1, _, rfl, rfl, sql e1, gt hd1, _, _, rfl, rfl, (by show (0 : Int) < _; decide), _, _, rfl, rfl, _, rfl, pd, _, rfl, sql e1, fun p hp => ⟨p, rfl, ⟨_, sql upd_same⟩, h p hp⟩⟩
    · rw [List.length_map, List.length_take]; omega
    · intro x; rfl
    · obtain ⟨z, hz, rfl⟩ := map_at hx
      exact ⟨_, rfl, .inl ⟨_, rfl, _, _, rfl, rfl, (by show (0 : Int) < _; decide), h⟩⟩
    have l1 : ((ds.drop 2).take (j1 - 2)).length ≤ 58 := by rw [List.length_take]; omega
    generalize (ds.drop 2).take (j1 - 2) = w1 at e2 l1
    obtain ⟨pl, hpl, hp, hl⟩ : ∃ bs : List Int, bs = w1.map (· % 256) ∧ Bytes bs ∧ bs.length ≤ 58 := ⟨_, rfl, fun b hb => by
        obtain ⟨z, _, rfl⟩ := List.mem_map.mp hb
        exact ⟨Int.emod_nonneg _ (by decide), Int.emod_lt_of_pos _ (by decide)⟩, by rw [List.length_map]; exact l1⟩
    have e2' : H2 o1 = some (.lst (pl.map V.int)) := by rw [e2, hpl, List.map_map, List.map_map]; rfl
    have e12 := s2 _ _ e1
    clear e2 l1 hj1 hpl
    -- perhaps all zeros
    refine ⟨fun σ' H' => ∃ (o1 : Addr) (pl : List Int), σ' = [some (.ref a), some (.ref pd), some (.int kind), some (.ref o1), none, none, none, none, none, none, none, none] ∧ Same H2 H' ∧ H' o1 = some (.lst (pl.map V.int)) ∧ Bytes pl ∧ pl.length ≤ 58, ?_, ?_⟩
    · refine ⟨_, rfl, pd, _, 1, _, rfl, rfl, sql e12, gt hd1, _, _, rfl, rfl, (by show (0 : Int) < _; decide), rfl, _, rfl, ifd (fun hc => ?_) (fun hc => ?_)⟩
      · walk_at "go"
        refine EL.use (el_rep (el_lst (ea_cons ei_c ea_nil) (by show 1 ≤ 90000; decide)) (ei_lenL rfl (sql e2')) (by rw [List.length_map]; omega) (by rw [List.length_map]; omega) (by rw [List.length_map]; show 1 * _ ≤ 90000; omega)) (fun p H3 s3 e3 => ?_)
        rw [rep0] at e3
        exact ⟨p, _, rfl, s3, e3, rep_bytes _, by rw [List.length_replicate, List.length_map]; omega⟩
      · exact ⟨o1, pl, rfl, Same.refl _, e2', hp, hl⟩
    clear hl hp e2' pl
    rintro σ' H3 ⟨o1, pl, rfl, s3, e3, hp, hl⟩
    have e13 := s3 _ _ e12
    have hml : (pl.map V.int).length = pl.length := List.length_map _
    -- row
    walk_at "go"
    dsimp only [L2.tCall, L2.tCons, L2.tNil]
    refine EL.use (el_cat (el_cat (el_lst (ea_cons (ei_var rfl) (ea_cons (ei_lenL rfl (sql e3)) ea_nil)) (by show 2 ≤ 90000; decide)) (el_var rfl e3) ?_) (el_rep (el_lst (ea_cons ei_c ea_nil) (by show 1 ≤ 90000; decide)) (ei_i0 ei_c (ei_lenL rfl (sql e3))) ?_ ?_ ?_) ?_) (fun pb H4 s4 e4 => ?_)
    · rw [hml]; show 2 + _ ≤ 90000; omega
    · rw [hml]; omega
    · rw [hml]; omega
    · rw [hml]; show 1 * _ ≤ 90000; omega
    · rw [List.length_append, hml, List.length_flatten, List.map_replicate, List.sum_replicate_nat]
      simp only [List.length_cons, List.length_nil]
      omega
    rw [secBody_map] at e4
    have hb60 := body_len (kind := kind) hl
    refine ⟨pb, secBody kind pl, rfl, e4, by omega, fun pr H5 hpr s5 e5 => ?_⟩
    have s35 := s4.trans s5
    -- passed, sector
    refine ⟨_, rfl, o1, _, rfl, .inl (sql (s35 _ _ e3)), fun pp hpp => ?_⟩
    have s6 := same_upd (o := .lst (pl.map V.int)) hpp
    have e6 : (upd H5 pp (.lst (pl.map V.int))) pp = some (.lst (pl.map V.int)) := upd_same
    generalize upd H5 pp (.lst (pl.map V.int)) = H6 at s6 e6
    refine ⟨_, rfl, _, rfl, pp, kind, pl, rfl, sql e6, hl, fun ps H7 hps s7 e7 => ?_⟩
    have s67 := s6.trans s7
    have er7 := s67 _ _ e5
    have ep7 := s7 _ _ e6
    have eo7 := s67 _ _ (s35 _ _ e3)
    have e17 := s67 _ _ (s35 _ _ e13)
    -- sector is a tuple, right, and passed stays
    refine ⟨_, rfl, _, .ty "tuple", .type "tuple", .type "tuple", true, rfl, .ty _, tyx_t (sqt e7), kit_ty (by decide +kernel), true, rfl, ?_⟩
    refine ⟨_, rfl, _, rfl, pr, _, rfl, .inl ⟨sql er7, fun pt hpt => ?_⟩⟩
    have s8 := same_upd (o := .tup ((sec (secBody kind pl)).map V.int)) hpt
    have fls := (flat_tints (sec (secBody kind pl))).sh (by decide)
    have flp := (flat_ints pl).sh (by decide)
    refine ⟨_, _, .tup (sqt (s8 _ _ e7)) (dpa_ints _), .tup (sqt upd_same) (dpa_ints _), fls, fls, _, rfl, ifbf (by rw [eqv_self fls]; rfl) ?_⟩
    refine ⟨_, rfl, _, rfl, _, _, dp_ints (sql (s8 _ _ ep7)), dp_ints (sql (s8 _ _ eo7)), flp, flp, _, rfl, ifbf (by rw [eqv_self flp]; rfl) ?_⟩
    generalize upd H7 pt (.tup ((sec (secBody kind pl)).map V.int)) = H8 at s8
    have e78 := s8 _ _ e7
    have eo8 := s8 _ _ eo7
    have er8 := s8 _ _ er7
    have e18 := s8 _ _ e17
    -- read back
    refine ⟨_, rfl, _, rfl, _, rfl, ps, o1, kind, pl, rfl, sqt e78, sql eo8, hl, hk1.1, hk1.2, hp, fun H9 s9 => ⟨true, rfl, ?_⟩⟩
    have hB : ∀ H : Hp, SqT K H T.ca_BLANK ((List.replicate 64 (0 : Int)).map V.int) := fun H => T.q_BLANK H
    have rdb : rdS (List.replicate 64 0) = .blank := if_pos rfl
    refine ⟨T.ca_BLANK, List.replicate 64 0, rfl, hB H9, List.length_replicate, rep_bytes 64, fun _ => ⟨rfl, _, rfl, ifnt rfl ?_⟩, (fun e => by rw [rdb] at e; cases e), (fun _ _ e => by rw [rdb] at e; cases e)⟩
    -- the constants
    dsimp only [L2.tCons, L2.tNil, L2.tCB]
    refine EL.use (el_rep (el_lst (ea_cons ei_c ea_nil) (by show 1 ≤ 90000; decide)) ei_c (by decide) (by decide) (by show 1 * 64 ≤ 90000; decide)) (fun pz H10 s10 e10 => ?_)
    rw [rep0, show ((64 : Int)).toNat = 64 from rfl] at e10
    refine ⟨pz, _, rfl, .inl ⟨sql e10, fun pz2 hz2 => ?_⟩⟩
    have s11 := same_upd (o := .tup ((List.replicate 64 (0 : Int)).map V.int)) hz2
    have flz := (flat_tints (List.replicate 64 0)).sh (by decide)
    refine ⟨_, _, .tup (hB _) (dpa_ints _), .tup (sqt upd_same) (dpa_ints _), flz, flz, _, rfl, ifbf (by rw [eqv_self flz]; rfl) ?_⟩
    refine ⟨rfl, _, rfl, ifnt rfl ?_⟩
    refine ⟨rfl, _, rfl, ifnt rfl ?_⟩
    generalize upd H10 pz2 (.tup ((List.replicate 64 (0 : Int)).map V.int)) = H11 at s11
    have s811 := s9.trans (s10.trans s11)
    have eo11 := s811 _ _ eo8
    have er11 := s811 _ _ er8
    have e111 := s811 _ _ e18
    have hby : Bytes (sec (secBody kind pl)) := fun x hx => by
      rcases List.mem_append.mp hx with h | h
      · have g := sums_pos (1, 1) (bs := secBody kind pl) (fun z => by rw [z] at hb60; cases hb60)
        unfold chk at h
        simp only [List.mem_cons, List.not_mem_nil, or_false] at h
        omega
      · exact body_bytes hl (by omega) (by omega) hp x h
    have hsl : (sec (secBody kind pl)).length = 64 := by unfold sec; rw [List.length_append, hb60]; rfl
    have hslm : ((sec (secBody kind pl)).map V.int).length = 64 := by rw [List.length_map, hsl]
    -- twelve changes
    refine ⟨12, rfl, by decide, by decide, for_range (lo := 0) (n := 12) (fun i σ H' => Same H11 H' ∧ ∃ v7 v8 v9, σ = [some (.ref a), some (.ref pd), some (.int kind), some (.ref o1), some (.ref pr), some (.ref pp), some (.ref ps), v7, v8, v9, none, none])
      ⟨Same.refl _, none, none, none, rfl⟩ ?_ ?_⟩
    · rintro i σ H12 hi ⟨s12, v7, v8, v9, rfl⟩
      have e112 := s12 _ _ e111
      have er12 := s12 _ _ er11
      refine ⟨_, rfl, _, rfl, _, _, rfl, rfl, .inl ⟨by decide, by decide⟩, _, _, rfl, rfl, _, rfl, _, rfl, _, _, rfl, rfl, .inl ⟨by decide, by decide⟩, _, _, rfl, rfl, _, rfl, pd, _, rfl, sql e112, fun p hp' => ?_⟩
      have hcut : cutV (ds.map V.int) (some (61 + 4 * (0 + (i : Int)))) (some (65 + 4 * (0 + (i : Int)))) = ((ds.drop (61 + 4 * i)).take 4).map V.int := by
        rw [cut_ints ds (i := 61 + 4 * i) (j := 65 + 4 * i) (by omega) (by omega)]
        congr 2
        omega
      walk_at "go"
      rw [hcut]
      have s13 := s12.trans (same_upd (o := .lst (((ds.drop (61 + 4 * i)).take 4).map V.int)) hp')
      have ep13 : (upd H12 p (.lst (((ds.drop (61 + 4 * i)).take 4).map V.int))) p = some (.lst (((ds.drop (61 + 4 * i)).take 4).map V.int)) := upd_same
      have er13 := (same_upd (o := .lst (((ds.drop (61 + 4 * i)).take 4).map V.int)) hp') _ _ er12
      generalize upd H12 p (.lst (((ds.drop (61 + 4 * i)).take 4).map V.int)) = H13 at s13 ep13 er13
      have hat4 : ∀ k : Nat, k < 4 → ∃ d, ((ds.drop (61 + 4 * i)).take 4)[k]? = some d := fun k hk => ⟨_, List.getElem?_eq_getElem (by rw [List.length_take, List.length_drop]; omega)⟩
      obtain ⟨c0, hc0⟩ := hat4 0 (by decide)
      obtain ⟨c1, hc1⟩ := hat4 1 (by decide)
      obtain ⟨c2, hc2⟩ := hat4 2 (by decide)
      obtain ⟨c3, hc3⟩ := hat4 3 (by decide)
      generalize (ds.drop (61 + 4 * i)).take 4 = part at ep13 hc0 hc1 hc2 hc3
      have gp : ∀ {k : Nat} {d : Int}, part[k]? = some d → atI (part.map V.int) (k : Int) = some (.int d) := fun h => at_map h
      -- changed = list(row)
      refine ⟨_, rfl, pr, _, rfl, .inl (sql er13), fun pc hpc => ?_⟩
      have s14 := s13.trans (same_upd (o := .lst ((sec (secBody kind pl)).map V.int)) hpc)
      have ep14 := (same_upd (o := .lst ((sec (secBody kind pl)).map V.int)) hpc) _ _ ep13
      have ec14 : (upd H13 pc (.lst ((sec (secBody kind pl)).map V.int))) pc = some (.lst ((sec (secBody kind pl)).map V.int)) := upd_same
      have hpc0 : H11 pc = none := s13.free hpc
      have npc : p ≠ pc := ne_of_none ep13 hpc
      have nrc : pr ≠ pc := ne_of_none er13 hpc
      generalize upd H13 pc (.lst ((sec (secBody kind pl)).map V.int)) = H14 at s14 ep14 ec14
      obtain ⟨i1, hi1, hi1l⟩ : ∃ t : Nat, c0 % 64 = (t : Int) ∧ t < 64 := ⟨(c0 % 64).toNat, by omega, by omega⟩
      obtain ⟨i2, hi2, hi2l⟩ : ∃ t : Nat, c2 % 64 = (t : Int) ∧ t < 64 := ⟨(c2 % 64).toNat, by omega, by omega⟩
      refine ⟨_, rfl, p, _, 1, _, rfl, rfl, sql ep14, gp hc1, .inl ⟨_, rfl, _, _, rfl, rfl, (by show (0 : Int) < _; decide), _, rfl, _, rfl, p, _, 0, _, rfl, rfl, sql ep14, gp hc0, .inl ⟨_, rfl, _, _, rfl, rfl, (by show (0 : Int) < _; decide), pc, _, _, i1, rfl, rfl, ec14, ixn hi1 (by rw [hslm]; exact hi1l), ?_⟩⟩⟩
      have hu : 0 ≤ c1 % 256 ∧ c1 % 256 < 256 := by omega
      have ec15 : (upd H14 pc (.lst (((sec (secBody kind pl)).map V.int).set i1 (.int (c1 % 256))))) pc = some (.lst (((sec (secBody kind pl)).set i1 (c1 % 256)).map V.int)) := by rw [upd_same]; simp only [List.map_set]
      have s15 : Same H11 (upd H14 pc (.lst (((sec (secBody kind pl)).map V.int).set i1 (.int (c1 % 256))))) := same_put s14 hpc0
      have ep15 : (upd H14 pc (.lst (((sec (secBody kind pl)).map V.int).set i1 (.int (c1 % 256))))) p = some (.lst (part.map V.int)) := by rw [upd_ne npc]; exact ep14
      generalize upd H14 pc (.lst (((sec (secBody kind pl)).map V.int).set i1 (.int (c1 % 256)))) = H15 at ec15 s15 ep15
      have hl15 : (((sec (secBody kind pl)).set i1 (c1 % 256)).map V.int).length = 64 := by rw [List.length_map, List.length_set, hsl]
      -- the second change, or none
      refine ⟨fun σ' H' => ∃ (j : Nat) (v : Int), j < 64 ∧ 0 ≤ v ∧ v < 256 ∧ σ' = [some (.ref a), some (.ref pd), some (.int kind), some (.ref o1), some (.ref pr), some (.ref pp), some (.ref ps), some (.int (0 + (i : Int))), some (.ref p), some (.ref pc), none, none] ∧ Same H11 H' ∧ H' pc = some (.lst ((((sec (secBody kind pl)).set i1 (c1 % 256)).set j v).map V.int)), ?_, ?_⟩
      · refine ⟨_, rfl, _, _, rfl, rfl, (by show (0 : Int) < _; decide), _, _, rfl, rfl, _, rfl, ifd (fun hc => ?_) (fun hc => ?_)⟩
        · have hm : 0 < 1 + 255 * ((0 + (i : Int)) % 2) ∧ 1 + 255 * ((0 + (i : Int)) % 2) ≤ 256 := by omega
          refine ⟨_, rfl, p, _, 3, _, rfl, rfl, sql ep15, gp hc3, .inl ⟨_, rfl, _, rfl, _, _, rfl, rfl, (by show (0 : Int) < _; decide), _, _, rfl, rfl, .inl ⟨by decide, by decide⟩, _, _, rfl, rfl, _, _, rfl, rfl, hm.1, _, rfl, _, rfl, p, _, 2, _, rfl, rfl, sql ep15, gp hc2, .inl ⟨_, rfl, _, _, rfl, rfl, (by show (0 : Int) < _; decide), pc, _, _, i2, rfl, rfl, ec15, ixn hi2 (by rw [hl15]; exact hi2l), ?_⟩⟩⟩
          have v1 := Int.emod_nonneg c3 (show 1 + 255 * ((0 + (i : Int)) % 2) ≠ 0 by omega)
          have v2 := Int.emod_lt_of_pos c3 hm.1
          exact ⟨i2, c3 % (1 + 255 * ((0 + (i : Int)) % 2)), hi2l, v1, by omega, rfl, same_put s15 hpc0, by rw [upd_same]; simp only [List.map_set]⟩
        · exact ⟨i1, c1 % 256, hi1l, hu.1, hu.2, rfl, s15, by rw [List.set_set]; exact ec15⟩
      rintro σ' H16 ⟨j, v, hjl, hv0, hv1, rfl, s16, ec16⟩
      have er16 := s16 _ _ er11
      have fl1 := (flat_ints (((sec (secBody kind pl)).set i1 (c1 % 256)).set j v)).sh (by decide)
      have fl2 := (flat_ints (sec (secBody kind pl))).sh (by decide)
      refine ⟨_, rfl, _, rfl, _, _, dp_ints (sql ec16), dp_ints (sql er16), fl1, fl2, _, rfl, ?_⟩
      rw [eqv_ints]
      refine ifn (fun hne => ?_) (fun hne => ?_)
      · refine ⟨_, rfl, pc, _, rfl, sql ec16, by rw [List.length_set, List.length_set, hsl], fun b hb => ?_, rd_changed hl hk1.1 hk1.2 hp hi1l hjl hu ⟨hv0, hv1⟩ hne, fun H17 s17 => ⟨true, rfl, ?_⟩⟩
        · rcases List.mem_or_eq_of_mem_set hb with h | h
          · rcases List.mem_or_eq_of_mem_set h with h | h
            · exact hby b h
            · omega
          · omega
        · exact ⟨s16.trans s17, _, _, _, rfl⟩
      · exact ⟨s16, _, _, _, rfl⟩
    · rintro σ H12 ⟨s12, v7, v8, v9, rfl⟩
      -- wrong bodies
      refine ⟨_, rfl, _, rfl, _, rfl, pd, _, 119, _, rfl, rfl, sql (s12 _ _ e111), gt hdz, o1, kind, dz, pl, rfl, s12 _ _ eo11, hl, hk1.1, hk1.2, hp, az, fun pw xs H13 s13 ew hw => ?_⟩
      refine ⟨pw, rfl, ⟨_, sql ew⟩, for_list (K := K) (a := pw) (xs := xs) (fun i σ H' => Same H13 H' ∧ ∃ v10, σ = [some (.ref a), some (.ref pd), some (.int kind), some (.ref o1), some (.ref pr), some (.ref pp), some (.ref ps), v7, v8, v9, v10, none])
        ⟨Same.refl _, none, rfl⟩ (fun i σ H' _ ⟨s', _⟩ => s'.seq (sql ew)) ?_ ?_⟩
      · rintro i x σ H14 hx ⟨s14, v10, rfl⟩
        obtain ⟨p, b, rfl, eb, hbl, hbb, hbad⟩ := wrong_same s14 (hw x (List.mem_of_getElem? hx))
        have g := sums_pos (1, 1) (bs := b) (fun z => by rw [z] at hbl; cases hbl)
        refine ⟨_, rfl, p, b, rfl, eb, by omega, fun p2 H15 _ s15 e15 => ⟨p2, sec b, rfl, sql e15, by unfold sec; rw [List.length_append, hbl]; rfl, fun x hx => ?_, by rw [rdS_sec]; exact hbad, fun H16 s16 => ⟨true, rfl, ?_⟩⟩⟩
        · rcases List.mem_append.mp hx with h | h
          · unfold chk at h
            simp only [List.mem_cons, List.not_mem_nil, or_false] at h
            omega
          · exact hbb x h
        · exact ⟨s14.trans (s15.trans s16), _, rfl⟩
      · rintro σ H14 ⟨s14, v10, rfl⟩
        exact q _
end
theorem all_mk {l : PySem.W.OpenLaw} {w : World} {K : PySem.W.Frag} {h : Heap} {mg : Str → Option Value} {fa : Addr} (X : K.In h) (G : h.Ns mainGlobals mg) (hfa : mg "law" = some (.ref fa))
    {e_MajordomoError : Addr} {e_CodecError : Addr} {e_Truncated : Addr} {e_Malformed : Addr} {e_Damaged : Addr} {e_NotAValue : Addr} {f_checksum : Addr} {od_checksum an_checksum : Option Addr} {sl_checksum : Array (Option Value)} {oc_checksum kV_checksum dc_checksum pm_checksum cd_checksum ct_checksum : Value} {dT_checksum : Addr} {do_checksum : Option Addr} {dc2_checksum : Value} {dn_checksum : Nat} {ds_checksum : Array (Option Value)} {da_checksum_0 : Addr} {tod_checksum_0 : Option Addr} {tn_checksum_0 : Nat} {ts_checksum_0 : Array (Option Value)} {tv_checksum_0 : List Value} {f_check_bytes : Addr} {od_check_bytes an_check_bytes : Option Addr} {sl_check_bytes : Array (Option Value)} {oc_check_bytes kV_check_bytes dc_check_bytes pm_check_bytes cd_check_bytes ct_check_bytes : Value} {f_make_sector : Addr} {od_make_sector an_make_sector : Option Addr} {sl_make_sector : Array (Option Value)} {oc_make_sector kV_make_sector dc_make_sector pm_make_sector cd_make_sector ct_make_sector : Value} {f_read_sector : Addr} {od_read_sector an_read_sector : Option Addr} {sl_read_sector : Array (Option Value)} {oc_read_sector kV_read_sector dc_read_sector pm_read_sector cd_read_sector ct_read_sector : Value} {f__law_is_integer : Addr} {od__law_is_integer an__law_is_integer : Option Addr} {sl__law_is_integer : Array (Option Value)} {oc__law_is_integer kV__law_is_integer dc__law_is_integer pm__law_is_integer cd__law_is_integer ct__law_is_integer : Value} {f__law_draws : Addr} {od__law_draws an__law_draws : Option Addr} {sl__law_draws : Array (Option Value)} {oc__law_draws kV__law_draws dc__law_draws pm__law_draws cd__law_draws ct__law_draws : Value} {f__law_sector : Addr} {od__law_sector an__law_sector : Option Addr} {sl__law_sector : Array (Option Value)} {oc__law_sector kV__law_sector dc__law_sector pm__law_sector cd__law_sector ct__law_sector : Value} {f__law_damaged : Addr} {od__law_damaged an__law_damaged : Option Addr} {sl__law_damaged : Array (Option Value)} {oc__law_damaged kV__law_damaged dc__law_damaged pm__law_damaged cd__law_damaged ct__law_damaged : Value} {f__law_read_back : Addr} {od__law_read_back an__law_read_back : Option Addr} {sl__law_read_back : Array (Option Value)} {oc__law_read_back kV__law_read_back dc__law_read_back pm__law_read_back cd__law_read_back ct__law_read_back : Value} {f__law_wrong_bodies : Addr} {od__law_wrong_bodies an__law_wrong_bodies : Option Addr} {sl__law_wrong_bodies : Array (Option Value)} {oc__law_wrong_bodies kV__law_wrong_bodies dc__law_wrong_bodies pm__law_wrong_bodies cd__law_wrong_bodies ct__law_wrong_bodies : Value} {f_law : Addr} {od_law an_law : Option Addr} {sl_law : Array (Option Value)} {oc_law kV_law dc_law pm_law cd_law ct_law : Value} {t_MODULUS : Tok} {t_SECTOR : Tok} {t_PAYLOAD : Tok} {ca_BLANK : Addr} {cd0_BLANK : Option Addr} {cn_BLANK : Nat} {cs_BLANK : Array (Option Value)} {cv_BLANK : List Value} {t_CHECK_BYTES : Tok} {t_MOST_KIND : Tok}
    (g_MajordomoError : PySem.W.nsIn K mainGlobals "MajordomoError" = some (some (.ref e_MajordomoError)))
    (x_MajordomoError : PySem.W.excIn K e_MajordomoError [.type "ValueError", .type "Exception", .type "BaseException", .type "object"] "ValueError.__new__" = true)
    (k_MajordomoError : PySem.W.keepIn K (.ref e_MajordomoError) = true)
    (s_MajordomoError : PySem.W.subIn K (.ref e_MajordomoError) (.type "BaseException") = some true)
    (t_MajordomoError : PySem.W.typeIn K (.ref e_MajordomoError) = some (.type "type"))
    (g_CodecError : PySem.W.nsIn K mainGlobals "CodecError" = some (some (.ref e_CodecError)))
    (x_CodecError : PySem.W.excIn K e_CodecError [.type "ValueError", .type "Exception", .type "BaseException", .type "object"] "ValueError.__new__" = true)
    (k_CodecError : PySem.W.keepIn K (.ref e_CodecError) = true)
    (s_CodecError : PySem.W.subIn K (.ref e_CodecError) (.type "BaseException") = some true)
    (t_CodecError : PySem.W.typeIn K (.ref e_CodecError) = some (.type "type"))
    (g_Truncated : PySem.W.nsIn K mainGlobals "Truncated" = some (some (.ref e_Truncated)))
    (x_Truncated : PySem.W.excIn K e_Truncated [.type "ValueError", .type "Exception", .type "BaseException", .type "object"] "ValueError.__new__" = true)
    (k_Truncated : PySem.W.keepIn K (.ref e_Truncated) = true)
    (s_Truncated : PySem.W.subIn K (.ref e_Truncated) (.type "BaseException") = some true)
    (t_Truncated : PySem.W.typeIn K (.ref e_Truncated) = some (.type "type"))
    (g_Malformed : PySem.W.nsIn K mainGlobals "Malformed" = some (some (.ref e_Malformed)))
    (x_Malformed : PySem.W.excIn K e_Malformed [.type "ValueError", .type "Exception", .type "BaseException", .type "object"] "ValueError.__new__" = true)
    (k_Malformed : PySem.W.keepIn K (.ref e_Malformed) = true)
    (s_Malformed : PySem.W.subIn K (.ref e_Malformed) (.type "BaseException") = some true)
    (t_Malformed : PySem.W.typeIn K (.ref e_Malformed) = some (.type "type"))
    (g_Damaged : PySem.W.nsIn K mainGlobals "Damaged" = some (some (.ref e_Damaged)))
    (x_Damaged : PySem.W.excIn K e_Damaged [.type "ValueError", .type "Exception", .type "BaseException", .type "object"] "ValueError.__new__" = true)
    (k_Damaged : PySem.W.keepIn K (.ref e_Damaged) = true)
    (s_Damaged : PySem.W.subIn K (.ref e_Damaged) (.type "BaseException") = some true)
    (t_Damaged : PySem.W.typeIn K (.ref e_Damaged) = some (.type "type"))
    (hx_Damaged : PySem.W.hasDictIn K e_Damaged = true)
    (su_Damaged : PySem.W.subIn K (.ref e_Damaged) (.ref e_Damaged) = some true)
    (g_NotAValue : PySem.W.nsIn K mainGlobals "NotAValue" = some (some (.ref e_NotAValue)))
    (x_NotAValue : PySem.W.excIn K e_NotAValue [.type "ValueError", .type "Exception", .type "BaseException", .type "object"] "ValueError.__new__" = true)
    (k_NotAValue : PySem.W.keepIn K (.ref e_NotAValue) = true)
    (s_NotAValue : PySem.W.subIn K (.ref e_NotAValue) (.type "BaseException") = some true)
    (t_NotAValue : PySem.W.typeIn K (.ref e_NotAValue) = some (.type "type"))
    (Xhg_Damaged : PySem.W.findIn K (.ref e_Damaged) "__getattribute__" = some (some (.builtin "BaseException.__getattribute__")))
    (Xhk_Damaged : PySem.W.findIn K (.ref e_Damaged) "__getattr__" = some none)
    (Xhs_Damaged : PySem.W.subIn K (.ref e_Damaged) (.type "BaseException") = some true)
    (Xhd_Damaged : PySem.W.hasDictIn K e_Damaged = true)
    (Xha_Damaged : PySem.W.findIn K (.ref e_Damaged) "__class__" = some (some (.builtin "object.__class__")))
    (Xhn_Damaged : PySem.W.specialIn K (.builtin "object.__class__") "__get__" = some (some (.builtin "getset_descriptor.__get__")))
    (Xht_Damaged : PySem.W.takesIn K (.builtin "object.__class__") = some true)
    (Xhm_Damaged : PySem.W.mroIn K e_Damaged (.type "object") = some true)
    (y_Damaged_Truncated : PySem.W.kitOne K (.ref e_Damaged) (.ref e_Truncated) = some false)
    (y_Damaged_Malformed : PySem.W.kitOne K (.ref e_Damaged) (.ref e_Malformed) = some false)
    (y_Damaged_NotAValue : PySem.W.kitOne K (.ref e_Damaged) (.ref e_NotAValue) = some false)
    (y_Damaged_CodecError : PySem.W.kitOne K (.ref e_Damaged) (.ref e_CodecError) = some true)
    (g_checksum : PySem.W.nsIn K mainGlobals "checksum" = some (some (.ref f_checksum)))
    (l_checksum : K.lookup f_checksum = some ⟨oc_checksum, od_checksum, .func (PySem.W.fnOf "checksum" "checksum" (defArgs s_checksum) (defBody s_checksum) (defScope s_checksum) (.ref dT_checksum) kV_checksum dc_checksum pm_checksum an_checksum cd_checksum ct_checksum), sl_checksum⟩)
    (c_checksum : PySem.W.codeIn K cd_checksum "checksum" = true)
    (k_checksum : PySem.W.keepIn K (.ref f_checksum) = true)
    (lT_checksum : K.lookup dT_checksum = some ⟨dc2_checksum, do_checksum, .seq (([.ref da_checksum_0] : List Value).toArray) dn_checksum, ds_checksum⟩)
    (lq_checksum_0 : K.lookup da_checksum_0 = some ⟨.type "tuple", tod_checksum_0, .seq tv_checksum_0.toArray tn_checksum_0, ts_checksum_0⟩)
    (v_checksum_0 : Vals [(.int 1), (.int 1)] tv_checksum_0)
    (g_check_bytes : PySem.W.nsIn K mainGlobals "check_bytes" = some (some (.ref f_check_bytes)))
    (l_check_bytes : K.lookup f_check_bytes = some ⟨oc_check_bytes, od_check_bytes, .func (PySem.W.fnOf "check_bytes" "check_bytes" (defArgs s_check_bytes) (defBody s_check_bytes) (defScope s_check_bytes) .none kV_check_bytes dc_check_bytes pm_check_bytes an_check_bytes cd_check_bytes ct_check_bytes), sl_check_bytes⟩)
    (c_check_bytes : PySem.W.codeIn K cd_check_bytes "check_bytes" = true)
    (k_check_bytes : PySem.W.keepIn K (.ref f_check_bytes) = true)
    (g_make_sector : PySem.W.nsIn K mainGlobals "make_sector" = some (some (.ref f_make_sector)))
    (l_make_sector : K.lookup f_make_sector = some ⟨oc_make_sector, od_make_sector, .func (PySem.W.fnOf "make_sector" "make_sector" (defArgs s_make_sector) (defBody s_make_sector) (defScope s_make_sector) .none kV_make_sector dc_make_sector pm_make_sector an_make_sector cd_make_sector ct_make_sector), sl_make_sector⟩)
    (c_make_sector : PySem.W.codeIn K cd_make_sector "make_sector" = true)
    (k_make_sector : PySem.W.keepIn K (.ref f_make_sector) = true)
    (g_read_sector : PySem.W.nsIn K mainGlobals "read_sector" = some (some (.ref f_read_sector)))
    (l_read_sector : K.lookup f_read_sector = some ⟨oc_read_sector, od_read_sector, .func (PySem.W.fnOf "read_sector" "read_sector" (defArgs s_read_sector) (defBody s_read_sector) (defScope s_read_sector) .none kV_read_sector dc_read_sector pm_read_sector an_read_sector cd_read_sector ct_read_sector), sl_read_sector⟩)
    (c_read_sector : PySem.W.codeIn K cd_read_sector "read_sector" = true)
    (k_read_sector : PySem.W.keepIn K (.ref f_read_sector) = true)
    (g__law_is_integer : PySem.W.nsIn K mainGlobals "_law_is_integer" = some (some (.ref f__law_is_integer)))
    (l__law_is_integer : K.lookup f__law_is_integer = some ⟨oc__law_is_integer, od__law_is_integer, .func (PySem.W.fnOf "_law_is_integer" "_law_is_integer" (defArgs s__law_is_integer) (defBody s__law_is_integer) (defScope s__law_is_integer) .none kV__law_is_integer dc__law_is_integer pm__law_is_integer an__law_is_integer cd__law_is_integer ct__law_is_integer), sl__law_is_integer⟩)
    (c__law_is_integer : PySem.W.codeIn K cd__law_is_integer "_law_is_integer" = true)
    (k__law_is_integer : PySem.W.keepIn K (.ref f__law_is_integer) = true)
    (g__law_draws : PySem.W.nsIn K mainGlobals "_law_draws" = some (some (.ref f__law_draws)))
    (l__law_draws : K.lookup f__law_draws = some ⟨oc__law_draws, od__law_draws, .func (PySem.W.fnOf "_law_draws" "_law_draws" (defArgs s__law_draws) (defBody s__law_draws) (defScope s__law_draws) .none kV__law_draws dc__law_draws pm__law_draws an__law_draws cd__law_draws ct__law_draws), sl__law_draws⟩)
    (c__law_draws : PySem.W.codeIn K cd__law_draws "_law_draws" = true)
    (k__law_draws : PySem.W.keepIn K (.ref f__law_draws) = true)
    (g__law_sector : PySem.W.nsIn K mainGlobals "_law_sector" = some (some (.ref f__law_sector)))
    (l__law_sector : K.lookup f__law_sector = some ⟨oc__law_sector, od__law_sector, .func (PySem.W.fnOf "_law_sector" "_law_sector" (defArgs s__law_sector) (defBody s__law_sector) (defScope s__law_sector) .none kV__law_sector dc__law_sector pm__law_sector an__law_sector cd__law_sector ct__law_sector), sl__law_sector⟩)
    (c__law_sector : PySem.W.codeIn K cd__law_sector "_law_sector" = true)
    (k__law_sector : PySem.W.keepIn K (.ref f__law_sector) = true)
    (g__law_damaged : PySem.W.nsIn K mainGlobals "_law_damaged" = some (some (.ref f__law_damaged)))
    (l__law_damaged : K.lookup f__law_damaged = some ⟨oc__law_damaged, od__law_damaged, .func (PySem.W.fnOf "_law_damaged" "_law_damaged" (defArgs s__law_damaged) (defBody s__law_damaged) (defScope s__law_damaged) .none kV__law_damaged dc__law_damaged pm__law_damaged an__law_damaged cd__law_damaged ct__law_damaged), sl__law_damaged⟩)
    (c__law_damaged : PySem.W.codeIn K cd__law_damaged "_law_damaged" = true)
    (k__law_damaged : PySem.W.keepIn K (.ref f__law_damaged) = true)
    (g__law_read_back : PySem.W.nsIn K mainGlobals "_law_read_back" = some (some (.ref f__law_read_back)))
    (l__law_read_back : K.lookup f__law_read_back = some ⟨oc__law_read_back, od__law_read_back, .func (PySem.W.fnOf "_law_read_back" "_law_read_back" (defArgs s__law_read_back) (defBody s__law_read_back) (defScope s__law_read_back) .none kV__law_read_back dc__law_read_back pm__law_read_back an__law_read_back cd__law_read_back ct__law_read_back), sl__law_read_back⟩)
    (c__law_read_back : PySem.W.codeIn K cd__law_read_back "_law_read_back" = true)
    (k__law_read_back : PySem.W.keepIn K (.ref f__law_read_back) = true)
    (g__law_wrong_bodies : PySem.W.nsIn K mainGlobals "_law_wrong_bodies" = some (some (.ref f__law_wrong_bodies)))
    (l__law_wrong_bodies : K.lookup f__law_wrong_bodies = some ⟨oc__law_wrong_bodies, od__law_wrong_bodies, .func (PySem.W.fnOf "_law_wrong_bodies" "_law_wrong_bodies" (defArgs s__law_wrong_bodies) (defBody s__law_wrong_bodies) (defScope s__law_wrong_bodies) .none kV__law_wrong_bodies dc__law_wrong_bodies pm__law_wrong_bodies an__law_wrong_bodies cd__law_wrong_bodies ct__law_wrong_bodies), sl__law_wrong_bodies⟩)
    (c__law_wrong_bodies : PySem.W.codeIn K cd__law_wrong_bodies "_law_wrong_bodies" = true)
    (k__law_wrong_bodies : PySem.W.keepIn K (.ref f__law_wrong_bodies) = true)
    (g_law : PySem.W.nsIn K mainGlobals "law" = some (some (.ref f_law)))
    (l_law : K.lookup f_law = some ⟨oc_law, od_law, .func (PySem.W.fnOf "law" "law" (defArgs s_law) (defBody s_law) (defScope s_law) .none kV_law dc_law pm_law an_law cd_law ct_law), sl_law⟩)
    (c_law : PySem.W.codeIn K cd_law "law" = true)
    (k_law : PySem.W.keepIn K (.ref f_law) = true)
    (c_MODULUS : PySem.W.nsIn K mainGlobals "MODULUS" = some (some (.int 65521 t_MODULUS)))
    (c_SECTOR : PySem.W.nsIn K mainGlobals "SECTOR" = some (some (.int 64 t_SECTOR)))
    (c_PAYLOAD : PySem.W.nsIn K mainGlobals "PAYLOAD" = some (some (.int 58 t_PAYLOAD)))
    (c_BLANK : PySem.W.nsIn K mainGlobals "BLANK" = some (some (.ref ca_BLANK)))
    (q_BLANK : K.lookup ca_BLANK = some ⟨.type "tuple", cd0_BLANK, .seq cv_BLANK.toArray cn_BLANK, cs_BLANK⟩)
    (v_BLANK : Vals [(.int 0), (.int 0), (.int 0), (.int 0), (.int 0), (.int 0), (.int 0), (.int 0), (.int 0), (.int 0), (.int 0), (.int 0), (.int 0), (.int 0), (.int 0), (.int 0), (.int 0), (.int 0), (.int 0), (.int 0), (.int 0), (.int 0), (.int 0), (.int 0), (.int 0), (.int 0), (.int 0), (.int 0), (.int 0), (.int 0), (.int 0), (.int 0), (.int 0), (.int 0), (.int 0), (.int 0), (.int 0), (.int 0), (.int 0), (.int 0), (.int 0), (.int 0), (.int 0), (.int 0), (.int 0), (.int 0), (.int 0), (.int 0), (.int 0), (.int 0), (.int 0), (.int 0), (.int 0), (.int 0), (.int 0), (.int 0), (.int 0), (.int 0), (.int 0), (.int 0), (.int 0), (.int 0), (.int 0), (.int 0)] cv_BLANK)
    (c_CHECK_BYTES : PySem.W.nsIn K mainGlobals "CHECK_BYTES" = some (some (.int 4 t_CHECK_BYTES)))
    (c_MOST_KIND : PySem.W.nsIn K mainGlobals "MOST_KIND" = some (some (.int 9 t_MOST_KIND)))
    (n_range : PySem.W.nsIn K mainGlobals "range" = some none)
    (n_len : PySem.W.nsIn K mainGlobals "len" = some none)
    (n_abs : PySem.W.nsIn K mainGlobals "abs" = some none)
    (n_int : PySem.W.nsIn K mainGlobals "int" = some none)
    (n_isinstance : PySem.W.nsIn K mainGlobals "isinstance" = some none)
    (n_bool : PySem.W.nsIn K mainGlobals "bool" = some none)
    (n_list : PySem.W.nsIn K mainGlobals "list" = some none)
    (n_tuple : PySem.W.nsIn K mainGlobals "tuple" = some none) :
    ∃ fd : FuncData, (∀ (s : Shared) (v : Value), BindsTo s fd ⟨[v], []⟩ [("script", v)]) ∧ ∀ base : Heap, K.In base → base.Ns mainGlobals mg → FnOk l.prog w K mg base CX0 4 fa fd ["script"] (sp_law K) := by
  have e : fa = f_law := by
    have z := hfa.symm.trans (PySem.W.mg_of X G g_law)
    injection z with z
    injection z
  rw [e]
  let T : TX K mg := ⟨e_MajordomoError, (PySem.W.mg_of X G g_MajordomoError), x_MajordomoError, k_MajordomoError, s_MajordomoError, t_MajordomoError, e_CodecError, (PySem.W.mg_of X G g_CodecError), x_CodecError, k_CodecError, s_CodecError, t_CodecError, e_Truncated, (PySem.W.mg_of X G g_Truncated), x_Truncated, k_Truncated, s_Truncated, t_Truncated, e_Malformed, (PySem.W.mg_of X G g_Malformed), x_Malformed, k_Malformed, s_Malformed, t_Malformed, e_Damaged, (PySem.W.mg_of X G g_Damaged), x_Damaged, k_Damaged, s_Damaged, t_Damaged, (PySem.W.exm_ref s_Damaged hx_Damaged t_Damaged su_Damaged), e_NotAValue, (PySem.W.mg_of X G g_NotAValue), x_NotAValue, k_NotAValue, s_NotAValue, t_NotAValue, ⟨Xhg_Damaged, Xhk_Damaged, Xhs_Damaged, Xhd_Damaged, Xha_Damaged, Xhn_Damaged, Xht_Damaged, Xhm_Damaged⟩, y_Damaged_Truncated, y_Damaged_Malformed, y_Damaged_NotAValue, y_Damaged_CodecError, f_checksum, (PySem.W.fnOf "checksum" "checksum" (defArgs s_checksum) (defBody s_checksum) (defScope s_checksum) (.ref dT_checksum) kV_checksum dc_checksum pm_checksum an_checksum cd_checksum ct_checksum), da_checksum_0, (fun H => Or.inr ⟨_, tv_checksum_0.toArray, tn_checksum_0, lq_checksum_0, rfl, rfl, (by rw [List.size_toArray, ← (Vals.length v_checksum_0)]; exact (by decide : 2 ≤ sizeLine)), (by simpa using v_checksum_0)⟩), (show FunD K "checksum" "checksum" (defArgs s_checksum) (defBody s_checksum) (defScope s_checksum) [.ref da_checksum_0] [] f_checksum (PySem.W.fnOf "checksum" "checksum" (defArgs s_checksum) (defBody s_checksum) (defScope s_checksum) (.ref dT_checksum) kV_checksum dc_checksum pm_checksum an_checksum cd_checksum ct_checksum) from ⟨⟨oc_checksum, od_checksum, .ref dT_checksum, kV_checksum, dc_checksum, pm_checksum, an_checksum, cd_checksum, ct_checksum, sl_checksum, rfl, l_checksum, c_checksum, Or.inr ⟨by simp, dT_checksum, _, [.ref da_checksum_0], dn_checksum, rfl, lT_checksum, rfl, (.cons rfl .nil)⟩, Or.inl rfl⟩, k_checksum⟩), ((show FunD K "checksum" "checksum" (defArgs s_checksum) (defBody s_checksum) (defScope s_checksum) [.ref da_checksum_0] [] f_checksum (PySem.W.fnOf "checksum" "checksum" (defArgs s_checksum) (defBody s_checksum) (defScope s_checksum) (.ref dT_checksum) kV_checksum dc_checksum pm_checksum an_checksum cd_checksum ct_checksum) from ⟨⟨oc_checksum, od_checksum, .ref dT_checksum, kV_checksum, dc_checksum, pm_checksum, an_checksum, cd_checksum, ct_checksum, sl_checksum, rfl, l_checksum, c_checksum, Or.inr ⟨by simp, dT_checksum, _, [.ref da_checksum_0], dn_checksum, rfl, lT_checksum, rfl, (.cons rfl .nil)⟩, Or.inl rfl⟩, k_checksum⟩).binds1 1 0 (by simp) rfl (fun T kV doc pm an cdv ct us its h1 h2 => match us, its, h1, h2 with | [_], [_], _, _ => ⟨_, rfl, rfl⟩)), ((show FunD K "checksum" "checksum" (defArgs s_checksum) (defBody s_checksum) (defScope s_checksum) [.ref da_checksum_0] [] f_checksum (PySem.W.fnOf "checksum" "checksum" (defArgs s_checksum) (defBody s_checksum) (defScope s_checksum) (.ref dT_checksum) kV_checksum dc_checksum pm_checksum an_checksum cd_checksum ct_checksum) from ⟨⟨oc_checksum, od_checksum, .ref dT_checksum, kV_checksum, dc_checksum, pm_checksum, an_checksum, cd_checksum, ct_checksum, sl_checksum, rfl, l_checksum, c_checksum, Or.inr ⟨by simp, dT_checksum, _, [.ref da_checksum_0], dn_checksum, rfl, lT_checksum, rfl, (.cons rfl .nil)⟩, Or.inl rfl⟩, k_checksum⟩).binds1 2 1 (by simp) rfl (fun T kV doc pm an cdv ct us its h1 h2 => match us, its, h1, h2 with | [_, _], [_], _, _ => ⟨_, rfl, rfl⟩)), (PySem.W.mg_of X G g_checksum), f_check_bytes, (PySem.W.fnOf "check_bytes" "check_bytes" (defArgs s_check_bytes) (defBody s_check_bytes) (defScope s_check_bytes) .none kV_check_bytes dc_check_bytes pm_check_bytes an_check_bytes cd_check_bytes ct_check_bytes), (fun_mk (st := s_check_bytes) l_check_bytes c_check_bytes k_check_bytes), ((fun_mk (st := s_check_bytes) l_check_bytes c_check_bytes k_check_bytes).binds (ps := ["pair"]) fun _ _ _ _ _ _ us hl => match us, hl with | [_], _ => rfl), (PySem.W.mg_of X G g_check_bytes), f_make_sector, (PySem.W.fnOf "make_sector" "make_sector" (defArgs s_make_sector) (defBody s_make_sector) (defScope s_make_sector) .none kV_make_sector dc_make_sector pm_make_sector an_make_sector cd_make_sector ct_make_sector), (fun_mk (st := s_make_sector) l_make_sector c_make_sector k_make_sector), ((fun_mk (st := s_make_sector) l_make_sector c_make_sector k_make_sector).binds (ps := ["kind", "payload"]) fun _ _ _ _ _ _ us hl => match us, hl with | [_, _], _ => rfl), (PySem.W.mg_of X G g_make_sector), f_read_sector, (PySem.W.fnOf "read_sector" "read_sector" (defArgs s_read_sector) (defBody s_read_sector) (defScope s_read_sector) .none kV_read_sector dc_read_sector pm_read_sector an_read_sector cd_read_sector ct_read_sector), (fun_mk (st := s_read_sector) l_read_sector c_read_sector k_read_sector), ((fun_mk (st := s_read_sector) l_read_sector c_read_sector k_read_sector).binds (ps := ["sector"]) fun _ _ _ _ _ _ us hl => match us, hl with | [_], _ => rfl), (PySem.W.mg_of X G g_read_sector), f__law_is_integer, (PySem.W.fnOf "_law_is_integer" "_law_is_integer" (defArgs s__law_is_integer) (defBody s__law_is_integer) (defScope s__law_is_integer) .none kV__law_is_integer dc__law_is_integer pm__law_is_integer an__law_is_integer cd__law_is_integer ct__law_is_integer), (fun_mk (st := s__law_is_integer) l__law_is_integer c__law_is_integer k__law_is_integer), ((fun_mk (st := s__law_is_integer) l__law_is_integer c__law_is_integer k__law_is_integer).binds (ps := ["actual"]) fun _ _ _ _ _ _ us hl => match us, hl with | [_], _ => rfl), (PySem.W.mg_of X G g__law_is_integer), f__law_draws, (PySem.W.fnOf "_law_draws" "_law_draws" (defArgs s__law_draws) (defBody s__law_draws) (defScope s__law_draws) .none kV__law_draws dc__law_draws pm__law_draws an__law_draws cd__law_draws ct__law_draws), (fun_mk (st := s__law_draws) l__law_draws c__law_draws k__law_draws), ((fun_mk (st := s__law_draws) l__law_draws c__law_draws k__law_draws).binds (ps := ["script", "many"]) fun _ _ _ _ _ _ us hl => match us, hl with | [_, _], _ => rfl), (PySem.W.mg_of X G g__law_draws), f__law_sector, (PySem.W.fnOf "_law_sector" "_law_sector" (defArgs s__law_sector) (defBody s__law_sector) (defScope s__law_sector) .none kV__law_sector dc__law_sector pm__law_sector an__law_sector cd__law_sector ct__law_sector), (fun_mk (st := s__law_sector) l__law_sector c__law_sector k__law_sector), ((fun_mk (st := s__law_sector) l__law_sector c__law_sector k__law_sector).binds (ps := ["body"]) fun _ _ _ _ _ _ us hl => match us, hl with | [_], _ => rfl), (PySem.W.mg_of X G g__law_sector), f__law_damaged, (PySem.W.fnOf "_law_damaged" "_law_damaged" (defArgs s__law_damaged) (defBody s__law_damaged) (defScope s__law_damaged) .none kV__law_damaged dc__law_damaged pm__law_damaged an__law_damaged cd__law_damaged ct__law_damaged), (fun_mk (st := s__law_damaged) l__law_damaged c__law_damaged k__law_damaged), ((fun_mk (st := s__law_damaged) l__law_damaged c__law_damaged k__law_damaged).binds (ps := ["row"]) fun _ _ _ _ _ _ us hl => match us, hl with | [_], _ => rfl), (PySem.W.mg_of X G g__law_damaged), f__law_read_back, (PySem.W.fnOf "_law_read_back" "_law_read_back" (defArgs s__law_read_back) (defBody s__law_read_back) (defScope s__law_read_back) .none kV__law_read_back dc__law_read_back pm__law_read_back an__law_read_back cd__law_read_back ct__law_read_back), (fun_mk (st := s__law_read_back) l__law_read_back c__law_read_back k__law_read_back), ((fun_mk (st := s__law_read_back) l__law_read_back c__law_read_back k__law_read_back).binds (ps := ["sector", "kind", "payload"]) fun _ _ _ _ _ _ us hl => match us, hl with | [_, _, _], _ => rfl), (PySem.W.mg_of X G g__law_read_back), f__law_wrong_bodies, (PySem.W.fnOf "_law_wrong_bodies" "_law_wrong_bodies" (defArgs s__law_wrong_bodies) (defBody s__law_wrong_bodies) (defScope s__law_wrong_bodies) .none kV__law_wrong_bodies dc__law_wrong_bodies pm__law_wrong_bodies an__law_wrong_bodies cd__law_wrong_bodies ct__law_wrong_bodies), (fun_mk (st := s__law_wrong_bodies) l__law_wrong_bodies c__law_wrong_bodies k__law_wrong_bodies), ((fun_mk (st := s__law_wrong_bodies) l__law_wrong_bodies c__law_wrong_bodies k__law_wrong_bodies).binds (ps := ["kind", "payload", "draw"]) fun _ _ _ _ _ _ us hl => match us, hl with | [_, _, _], _ => rfl), (PySem.W.mg_of X G g__law_wrong_bodies), f_law, (PySem.W.fnOf "law" "law" (defArgs s_law) (defBody s_law) (defScope s_law) .none kV_law dc_law pm_law an_law cd_law ct_law), (fun_mk (st := s_law) l_law c_law k_law), ((fun_mk (st := s_law) l_law c_law k_law).binds (ps := ["script"]) fun _ _ _ _ _ _ us hl => match us, hl with | [_], _ => rfl), (PySem.W.mg_of X G g_law), t_MODULUS, (PySem.W.mg_of X G c_MODULUS), t_SECTOR, (PySem.W.mg_of X G c_SECTOR), t_PAYLOAD, (PySem.W.mg_of X G c_PAYLOAD), ca_BLANK, (PySem.W.mg_of X G c_BLANK), (fun H => Or.inr ⟨_, cv_BLANK.toArray, cn_BLANK, q_BLANK, rfl, rfl, (by rw [List.size_toArray, ← (Vals.length v_BLANK)]; exact (by decide : 64 ≤ sizeLine)), (by simpa using v_BLANK)⟩), t_CHECK_BYTES, (PySem.W.mg_of X G c_CHECK_BYTES), t_MOST_KIND, (PySem.W.mg_of X G c_MOST_KIND), (PySem.W.mg_none_of X G n_range), (PySem.W.mg_none_of X G n_len), (PySem.W.mg_none_of X G n_abs), (PySem.W.mg_none_of X G n_int), (PySem.W.mg_none_of X G n_isinstance), (PySem.W.mg_none_of X G n_bool), (PySem.W.mg_none_of X G n_list), (PySem.W.mg_none_of X G n_tuple)⟩
  exact ⟨T.d_law, fun s v => .of_eq rfl, fun base _ _ => ok_law T⟩
end My
open PySem PySem.W PyProof.Rows
set_option maxHeartbeats 0 in
theorem PySem.Challenge.cw_majordomo_k07_sectors_holds : PySem.Challenge.rw_majordomo_k07_sectors.Holds := by
  w_on; o_law; k_head; (case hw => w_witness2)
  k_fill
  refine L2.walk_of (l := PySem.Challenge.rw_majordomo_k07_sectors) (n := 63) (k := 4) (x := "script") (CX := (fun _ => L2.CX0)) (sp := fun w => My.sp_law _) rfl (by decide) rfl ⟨rfl, by decide, by decide⟩ (fun w h Y => PySem.W.kIn_of Y) ?F (fun _ _ a ns hl _ hS => ⟨a, ns, rfl, hS, hl, fun _ => rfl⟩) (fun _ _ _ _ _ h => h)
  case F =>
    intro w mg fa h KX G hmg
    refine' My.all_mk KX G hmg ?g_MajordomoError ?x_MajordomoError ?k_MajordomoError ?s_MajordomoError ?t_MajordomoError ?g_CodecError ?x_CodecError ?k_CodecError ?s_CodecError ?t_CodecError ?g_Truncated ?x_Truncated ?k_Truncated ?s_Truncated ?t_Truncated ?g_Malformed ?x_Malformed ?k_Malformed ?s_Malformed ?t_Malformed ?g_Damaged ?x_Damaged ?k_Damaged ?s_Damaged ?t_Damaged ?hx_Damaged ?su_Damaged ?g_NotAValue ?x_NotAValue ?k_NotAValue ?s_NotAValue ?t_NotAValue ?Xhg_Damaged ?Xhk_Damaged ?Xhs_Damaged ?Xhd_Damaged ?Xha_Damaged ?Xhn_Damaged ?Xht_Damaged ?Xhm_Damaged ?y_Damaged_Truncated ?y_Damaged_Malformed ?y_Damaged_NotAValue ?y_Damaged_CodecError ?g_checksum ?l_checksum ?c_checksum ?k_checksum ?lT_checksum ?lq_checksum_0 ?v_checksum_0 ?g_check_bytes ?l_check_bytes ?c_check_bytes ?k_check_bytes ?g_make_sector ?l_make_sector ?c_make_sector ?k_make_sector ?g_read_sector ?l_read_sector ?c_read_sector ?k_read_sector ?g__law_is_integer ?l__law_is_integer ?c__law_is_integer ?k__law_is_integer ?g__law_draws ?l__law_draws ?c__law_draws ?k__law_draws ?g__law_sector ?l__law_sector ?c__law_sector ?k__law_sector ?g__law_damaged ?l__law_damaged ?c__law_damaged ?k__law_damaged ?g__law_read_back ?l__law_read_back ?c__law_read_back ?k__law_read_back ?g__law_wrong_bodies ?l__law_wrong_bodies ?c__law_wrong_bodies ?k__law_wrong_bodies ?g_law ?l_law ?c_law ?k_law ?c_MODULUS ?c_SECTOR ?c_PAYLOAD ?c_BLANK ?q_BLANK ?v_BLANK ?c_CHECK_BYTES ?c_MOST_KIND ?n_range ?n_len ?n_abs ?n_int ?n_isinstance ?n_bool ?n_list ?n_tuple
    (case g_MajordomoError => k_is); (case x_MajordomoError => k_exc); (case k_MajordomoError => k_is); (case s_MajordomoError => k_is); (case t_MajordomoError => k_is); (case g_CodecError => k_is); (case x_CodecError => k_exc); (case k_CodecError => k_is); (case s_CodecError => k_is); (case t_CodecError => k_is); (case g_Truncated => k_is); (case x_Truncated => k_exc); (case k_Truncated => k_is); (case s_Truncated => k_is); (case t_Truncated => k_is); (case g_Malformed => k_is); (case x_Malformed => k_exc); (case k_Malformed => k_is); (case s_Malformed => k_is); (case t_Malformed => k_is); (case g_Damaged => k_is); (case x_Damaged => k_exc); (case k_Damaged => k_is); (case s_Damaged => k_is); (case t_Damaged => k_is); (case hx_Damaged => k_is); (case su_Damaged => k_is); (case g_NotAValue => k_is); (case x_NotAValue => k_exc); (case k_NotAValue => k_is); (case s_NotAValue => k_is); (case t_NotAValue => k_is); (case Xhg_Damaged => k_is); (case Xhk_Damaged => k_is); (case Xhs_Damaged => k_is); (case Xhd_Damaged => k_is); (case Xha_Damaged => k_is); (case Xhn_Damaged => k_is); (case Xht_Damaged => k_is); (case Xhm_Damaged => k_is); (case y_Damaged_Truncated => kit_is); (case y_Damaged_Malformed => kit_is); (case y_Damaged_NotAValue => kit_is); (case y_Damaged_CodecError => kit_is); (case g_checksum => k_is); (case l_checksum => k_is); (case c_checksum => k_is); (case k_checksum => k_is); (case lT_checksum => k_is); (case lq_checksum_0 => k_is); (case v_checksum_0 => (repeat (first | exact .nil | refine .cons ⟨_, rfl⟩ ?_ | refine .cons rfl ?_))); (case g_check_bytes => k_is); (case l_check_bytes => k_is); (case c_check_bytes => k_is); (case k_check_bytes => k_is); (case g_make_sector => k_is); (case l_make_sector => k_is); (case c_make_sector => k_is); (case k_make_sector => k_is); (case g_read_sector => k_is); (case l_read_sector => k_is); (case c_read_sector => k_is); (case k_read_sector => k_is); (case g__law_is_integer => k_is); (case l__law_is_integer => k_is); (case c__law_is_integer => k_is); (case k__law_is_integer => k_is); (case g__law_draws => k_is); (case l__law_draws => k_is); (case c__law_draws => k_is); (case k__law_draws => k_is); (case g__law_sector => k_is); (case l__law_sector => k_is); (case c__law_sector => k_is); (case k__law_sector => k_is); (case g__law_damaged => k_is); (case l__law_damaged => k_is); (case c__law_damaged => k_is); (case k__law_damaged => k_is); (case g__law_read_back => k_is); (case l__law_read_back => k_is); (case c__law_read_back => k_is); (case k__law_read_back => k_is); (case g__law_wrong_bodies => k_is); (case l__law_wrong_bodies => k_is); (case c__law_wrong_bodies => k_is); (case k__law_wrong_bodies => k_is); (case g_law => k_is); (case l_law => k_is); (case c_law => k_is); (case k_law => k_is); (case c_MODULUS => k_is); (case c_SECTOR => k_is); (case c_PAYLOAD => k_is); (case c_BLANK => k_is); (case q_BLANK => k_is); (case v_BLANK => (repeat (first | exact .nil | refine .cons ⟨_, rfl⟩ ?_ | refine .cons rfl ?_))); (case c_CHECK_BYTES => k_is); (case c_MOST_KIND => k_is); (case n_range => k_is); (case n_len => k_is); (case n_abs => k_is); (case n_int => k_is); (case n_isinstance => k_is); (case n_bool => k_is); (case n_list => k_is); (case n_tuple => k_is)

