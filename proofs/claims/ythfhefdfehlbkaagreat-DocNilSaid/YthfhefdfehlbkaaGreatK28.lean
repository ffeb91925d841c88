/-
  slices.Compact at stamps, over a row of the call's own.
  No conditions but sizes.
  slices.SortFunc at stamps and stamp.Compare, over a row of the call's own (the shelf's contract, met); rows of rows; slices.Grow, slices.Concat.
  No conditions but sizes.
  slices.SortedFunc over a function; the program's Nodes and Below.
  No conditions but sizes.
  THE DOCUMENT's TREE, PLAINLY: rows by rising nodes, which tell what the program's tree tells.
  No conditions.
  MAY A KEY BE (the program's Right and the document's); the number of an error; the program's Compare.
  No conditions but sizes.
  WHICH SIBLING STANDS AHEAD: the program's Before, and the function that Sort hands on.
  No conditions.
  THE PROGRAM's Sort of siblings: Clone, slices.SortFunc by the shelf's contract.
  No conditions but sizes.
  THE PROGRAM's Row: of a tree, of none.
  No conditions but sizes.
-/
import Derived.Test.YthfhefdfehlbkaaGreatSh
import Derived.Test.YthfhefdfehlbkaaGreatK01
import Derived.Lib.SliceRun
import Derived.Deep.LoopGhost
import Derived.BigRegion
import Derived.Outline
import Derived.Test.YthfhefdfehlbkaaGreatShelfS
import Derived.Test.YthfhefdfehlbkaaGreatK19
import Derived.Test.YthfhefdfehlbkaaGreatK11
import Derived.Test.YthfhefdfehlbkaaGreatK1B
import Derived.Test.YthfhefdfehlbkaaGreatShelf
import Derived.Test.YthfhefdfehlbkaaGreatK17
set_option maxRecDepth 100000
set_option maxHeartbeats 8000000
namespace Go.Proofs.YthfhefdfehlbkaaGreat
open Go.RowKit
def CS (w:World) (b N:Nat) (f:Nat→Qm.St):Prop :=
 ∀ i,i<N→w.cell? ⟨b,i * 2,none⟩=some (.int .i64 (f i).1)∧w.cell? ⟨b,i * 2+1,none⟩=some (.int .i64 (f i).2)∧w.frozen? ⟨b,i * 2,none⟩=false∧w.frozen? ⟨b,i * 2+1,none⟩=false
open Go.RowKit
theorem compare_exact (t r t' r':Int) (w:World) :
  Calls Tryz.prog 168 #[.agg #[.int .i64 t,.int .i64 r],.agg #[.int .i64 t',.int .i64 r']] w fun e w'=>e=.returned (.int .i64 (qcmpS t r t' r'))∧w'=(w.alloc (.cells #[.int .i64 t,.int .i64 r] 35)).alloc (.cells #[.int .i64 t',.int .i64 r'] 35):=by
 by_cases h0:t=t'
 ·subst h0
  by_cases h1:r=r'
  ·subst h1
   have HR:=Hi (show qcmpS t r t r=0 from by simp [qcmpS])
   go_enter Tryz.func168,Tryz.ntmps168
   go_wp2
   go_ret
   rw [HR.out]
   exact ⟨rfl,rfl⟩
  ·have e1:((r == r'):Bool)=false:=by simpa using h1
   by_cases h2:r<r'
   ·have HR:=Hi (show qcmpS t r t r' = -1 from by simp [qcmpS,h1,h2])
    go_enter Tryz.func168,Tryz.ntmps168
    go_wp2
    go_ret
    rw [HR.out]
    exact ⟨rfl,rfl⟩
   ·have d2:decide (r<r')=false:=decide_eq_false h2
    have HR:=Hi (show qcmpS t r t r'=1 from by simp [qcmpS,h1,h2])
    go_enter Tryz.func168,Tryz.ntmps168
    go_wp2
    go_ret
    rw [HR.out]
    exact ⟨rfl,rfl⟩
 ·have e1:((t == t'):Bool)=false:=by simpa using h0
  by_cases h2:t<t'
  ·have HR:=Hi (show qcmpS t r t' r' = -1 from by simp [qcmpS,h0,h2])
   go_enter Tryz.func168,Tryz.ntmps168
   go_wp2
   go_ret
   rw [HR.out]
   exact ⟨rfl,rfl⟩
  ·have d2:decide (t<t')=false:=decide_eq_false h2
   have HR:=Hi (show qcmpS t r t' r'=1 from by simp [qcmpS,h0,h2])
   go_enter Tryz.func168,Tryz.ntmps168
   go_wp2
   go_ret
   rw [HR.out]
   exact ⟨rfl,rfl⟩
def encS (x:Qm.St):List Value:=[.int .i64 x.1,.int .i64 x.2]
theorem ltOf_cmp (x y:Qm.St):ltOf cmpV x y=decide (Qm.ltS x y):=by
 unfold ltOf
 rcases Qm.ltS_tri x y with h | h | h
 ·rw [cmpV_lt h,decide_eq_true h]; rfl
 ·subst h
  rw [cmpV_eq,decide_eq_false (Qm.ltS_irrefl x)]; rfl
 ·rw [cmpV_gt h,decide_eq_false (Qm.ltS_asymm h)]; rfl
theorem swo_cmp:Go.Sort.SWO (ltOf cmpV) where
 irrefl x:=by rw [ltOf_cmp]; exact decide_eq_false (Qm.ltS_irrefl x)
 trans x y z h k:=by rw [ltOf_cmp] at *; exact decide_eq_true (Qm.ltS_trans (of_decide_eq_true h) (of_decide_eq_true k))
 ntrans x y z h k:=by rw [ltOf_cmp] at *; exact decide_eq_false (Qm.ltS_le (of_decide_eq_false k) (of_decide_eq_false h))
theorem cmp_lays (blk off size:Nat) (w:World):CmpLays Tryz.prog 168 #[] encS 2 cmpV blk off size w:=fun _ _ _ _ x y =>
 (compare_exact x.1 x.2 y.1 y.2 _).mono fun e w' ⟨he,hw⟩=>⟨he,0,#[.cells #[.int .i64 x.1,.int .i64 x.2] 35,.cells #[.int .i64 y.1,.int .i64 y.2] 35],by rw [hw,Go.Sort.alloc_eq_grow,Go.Sort.alloc_eq_grow,Go.Sort.grow_grow]; rfl⟩
theorem flat_cells (l:List Qm.St) (j:Nat) (h:j<l.length * 2):(stCells l)[j]?=some (Go.Sort.flatK encS 2 l.toArray)[j]!:=by
 rw [Go.Sort.get_flatK _ _ _ _ (by simpa using h)]
 obtain ⟨h0,h1⟩:=stCells_get l (j / 2) (by omega)
 have hd:l.toArray[j / 2]! = Qm.stOf l (j / 2):=by
  have:j / 2<l.length:=by omega
  simp [Qm.stOf,List.getD,this]
 rw [hd]
 rcases Nat.mod_two_eq_zero_or_one j with he | he
 ·rw [he,show (encS (Qm.stOf l (j / 2)))[0]! = .int .i64 (Qm.stOf l (j / 2)).1 from rfl,← h0,show j / 2 * 2=j from by omega]
 ·rw [he,show (encS (Qm.stOf l (j / 2)))[1]! = .int .i64 (Qm.stOf l (j / 2)).2 from rfl,← h1,show j / 2 * 2+1=j from by omega]
theorem own_holds {w:World} {B g cap:Nat} {l:List Qm.St} (h:w.ownsRow B 35 2 (.slice (some ⟨g,0,none⟩) l.length cap) l.length (stCells l)):Go.Sort.HoldsK encS 2 w g 0 l.toArray:=fun j hj=>by
 have hj2:j<l.length * 2:=by simpa using hj
 refine ⟨?_,h.frozenAt _⟩
 rw [Nat.zero_add,h.cellAt j hj2,flat_cells l j hj2]
 rfl
theorem holds_cs {w:World} {g:Nat} {d:Array Qm.St} (h:Go.Sort.HoldsK encS 2 w g 0 d):CS w g d.size (Qm.stOf d.toList):=fun i hi=>by
 obtain ⟨a0,b0⟩:=h.cell (c:=0) hi (by decide)
 obtain ⟨a1,b1⟩:=h.cell (c:=1) hi (by decide)
 have hd:d[i]! = Qm.stOf d.toList i:=by simp [Qm.stOf,List.getD,hi]
 rw [hd] at a0 a1
 simp only [Nat.zero_add,Nat.add_zero] at a0 a1 b0 b1
 exact ⟨a0,a1,b0,b1⟩
theorem sort_turns (w:World) (g n:Nat) (d:Array Qm.St) (os:Array Obj):Turns (fun k=>k=g) w (sortWorldK encS 2 w g 0 n d os):=by
 refine ⟨rfl,rfl,rfl,?_,fun k hk hg=>?_⟩
 ·show w.heap.size≤(_ ++ os).size
  simp [Go.Sort.putRowK,Go.Sort.putRow,Go.Sort.mapBlock,Go.Sort.ahead]
 ·show (_ ++ os)[k]?=_
  rw [Array.getElem?_append_left (by simpa [Go.Sort.putRowK,Go.Sort.putRow,Go.Sort.mapBlock,Go.Sort.ahead] using hk)]
  simp only [Go.Sort.putRowK,Go.Sort.putRow,Go.Sort.mapBlock,Go.Sort.ahead,Array.getElem?_modify]
  rw [if_neg (fun e=>hg e.symm)]
def Sorted (g:Nat) (l:List Qm.St) (w:World) (e:Ending) (w':World):Prop :=
 e=.returned (.tuple #[])∧∃ m:List Qm.St,m.Perm l∧(∀ k,0<k→k<m.length→¬ Qm.ltS (Qm.stOf m k) (Qm.stOf m (k - 1)))∧CS w' g m.length (Qm.stOf m)∧Turns (fun k=>k=g) w w'
theorem sort_any (B g cap:Nat) (l:List Qm.St) (w:World) (h:w.ownsRow B 35 2 (.slice (some ⟨g,0,none⟩) l.length cap) l.length (stCells l)) (hl:l.length≤5000) :
  Calls Tryz.prog 257 #[.slice (some ⟨g,0,none⟩) l.length cap,.func (.func 168) #[] #[]] w (Sorted g l w):=by
 have eg:∀ args w,(callFunc 168 args).run Tryz.prog w=.ok (.enter 168 args) w:=enters_of Tryz.func168 (by kernel_rfl) rfl
 have hg:g<w.heap.size:=(World.ownsRow.lt h g rfl).2
 have hH:=own_holds h
 have hcon:=AnyQ.slices_SortFunc Tryz.sortSt 2 Tryz.isAgg35 Tryz.sizeOf35 encS (fun _=>rfl) (fun x v hv=>by simp [encS] at hv; rcases hv with rfl | rfl <;> rfl) cmpV swo_cmp 168 #[] g 0 cap l.toArray w eg (cmp_lays g 0 _ w) hH hg (by simp; omega)
 change Calls Tryz.prog 257 _ _ _ at hcon
 rw [List.size_toArray] at hcon
 refine hcon.mono ?_
 rintro e w' ⟨rfl,d',n,os,⟨hs,-,hp⟩,hsort,rfl⟩
 have hsz:d'.size=l.length:=by simpa using hs
 refine ⟨rfl,d'.toList,?_,fun k h0 hk=>?_,?_,sort_turns w g n d' os⟩
 ·have h3:(d'.toList.take l.length).Perm l:=by rw [← hsz] at hp; simpa [hsz] using hp
  rwa [List.take_of_length_le (by simp [hsz])] at h3
 ·have hk2:k<d'.size:=by simpa using hk
  have:=hsort (k - 1) k (Nat.zero_le _) (by omega) (by omega)
  rw [ltOf_cmp] at this
  have e1:d'[k]! = Qm.stOf d'.toList k:=by simp [Qm.stOf,List.getD,hk2]
  have e2:d'[k - 1]! = Qm.stOf d'.toList (k - 1):=by
   have:k - 1<d'.size:=by omega
   simp [Qm.stOf,List.getD,this]
  rw [e1,e2] at this
  exact of_decide_eq_false this
 ·have:=holdsK_sortWorldK_c encS 2 w g 0 l.toArray d' n os hH hg (by simpa using hs)
  have h2:=holds_cs this
  simpa using h2
open Go.RowKit
open Tm (Sp Tr has put cut kids)
theorem SeqFp.imp {α:Type} {P:Program} {gf:Nat} {lb:Array Value} {enc:α→Value} {S S' Sp Sp':List α→Prop} {F0:Nat→Prop} {w:World} (h:SeqFp P gf lb enc S Sp F0 w) (hS:∀ xs,S xs→S' xs) (hP:∀ xs,Sp xs→Sp' xs):SeqFp P gf lb enc S' Sp' F0 w :=
 fun l J Jx W Fp hW hF hJ hlt hY h0=>(h l J Jx W Fp hW hF hJ hlt (fun pre x F1 W1 hj hs=>hY pre x F1 W1 hj (hP _ hs)) h0).mono fun _ _ ⟨hv,F2,ht,hg,hr⟩ =>
  ⟨hv,F2,ht,hg,hr.imp (fun ⟨xs,h1,h2⟩=>⟨xs,hS _ h1,h2⟩) fun ⟨pre,h1,h2⟩=>⟨pre,hP _ h1,h2⟩⟩
theorem own_addr2 {w:World} {B:Nat} {E:TypeId} {k:Nat} {p:Option Addr} {n c:Nat} {xs:List Value} (h:w.ownsRow B E k (.slice p n c) n xs):p=none ∨ ∃ g,p=some ⟨g,0,none⟩:=by
 rcases h.2 with ⟨h2,-⟩ | ⟨g,cap,cur,hv,-⟩
 ·cases h2; exact Or.inl rfl
 ·cases hv; exact Or.inr ⟨g,rfl⟩
theorem cs_rd {w:World} {g:Nat} {m:List Qm.St} (h:CS w g m.length (Qm.stOf m)):Rd w (some ⟨g,0,none⟩) (stCells m):=fun _ =>
 ⟨g,0,rfl,fun i u hu=>by
  have hi:i<m.length * 2:=by have:=(List.getElem?_eq_some_iff.1 hu).1; rw [stCells_length] at this; exact this
  obtain ⟨h0,h1,-,-⟩:=h (i / 2) (by omega)
  obtain ⟨g0,g1⟩:=stCells_get m (i / 2) (by omega)
  rw [Nat.zero_add]
  rcases Nat.mod_two_eq_zero_or_one i with he | he
  ·rw [show i / 2 * 2=i from by omega] at h0 g0
   rw [hu] at g0
   rw [h0]; exact g0.symm
  ·rw [show i / 2 * 2+1=i from by omega] at h1 g1
   rw [hu] at g1
   rw [h1]; exact g1.symm⟩
def NodesOut (S:List Qm.St→Prop) (w:World) (e:Ending) (w':World):Prop :=
 ∃ p c m,S m∧e=.returned (.slice p m.length c)∧Rd w' p (stCells m)∧((∀ a,p=some a→w.heap.size≤a.block)∧(p=none→c=0))∧Below w.heap.size w w'
theorem sortedFunc_any {gf:Nat} {lb:Array Value} {K:List Qm.St} {Sp:List Qm.St→Prop} (w:World) (eg:∀ args w,(callFunc gf args).run Tryz.prog w=.ok (.enter gf args) w) (hseq:SeqFp Tryz.prog gf lb snV (fun xs=>xs.Perm K) Sp (fun k=>w.heap.size≤k) w) (hlen:∀ pre,Sp pre→pre.length≤1000000) (hK:K.length≤5000) :
  Calls Tryz.prog 186 #[.func (.func gf) #[] lb,.func (.func 168) #[] #[]] w (NodesOut (fun m=>m.Perm K) w):=by
 have HC:=Hi (collect_any w eg hseq hlen)
 clear eg hseq hlen
 go_enter Tryz.func186,Tryz.ntmps186
 go_wp2_with fail
 refine HC.out.mono ?_
 rintro e w1 ⟨v,xs,hp,rfl,ho,hb⟩
 have hxl:xs.length=K.length:=hp.length_eq
 obtain ⟨p1,c1,rfl,hrd,hcap,-,hnil,-⟩:=own_rd ho
 by_cases h0:xs.length=0
 ·have hx:xs=[]:=List.eq_nil_of_length_eq_zero h0
  have HE:=Hi (show NodesOut (fun m=>m.Perm K) w (.returned (.slice p1 0 c1)) w1 from ⟨p1,c1,[],by rw [← hx]; exact hp,rfl,Rd.nil _ _,⟨fun a ha=>(World.ownsRow.lt ho a.block (by rw [ha]; rfl)).1,hnil⟩,hb⟩)
  rw [h0]
  have HN:=Hi (fun W=>AnyF.slices_SortFunc_none (P:=Tryz.prog) (ρ:=Tryz.sortSt_ren) Tryz.sortSt p1 c1 (.func (.func 168) #[] #[]) W)
  change Hid (∀ W,Calls Tryz.prog 257 _ _ _) at HN
  clear ho hb h0 hp hrd hcap HC hxl hnil
  go_wp2_with fail
  refine (HN.out _).mono ?_
  rintro e w2 ⟨rfl,rfl⟩
  go_wp2
  go_ret
  exact HE.out
 ·obtain ⟨g,rfl⟩:∃ g,p1=some ⟨g,0,none⟩:=by
   rcases own_addr2 ho with rfl | h
   ·rcases ho.2 with ⟨-,h⟩ | ⟨g,cap,cur,hv,-⟩
    ·exact absurd h h0
    ·cases hv
   ·exact h
  have HS:=Hi (sort_any w.heap.size g c1 xs w1 ho (by omega))
  have HGB:=Hi (show w.heap.size≤g from (World.ownsRow.lt ho g rfl).1)
  have HB:=Hi hb
  have HP:=Hi hp
  clear ho hb h0 hp hrd hcap HC hxl hnil
  go_wp2_with fail
  refine HS.out.mono ?_
  rintro e w2 ⟨rfl,m,hp,hs,hcs,ht⟩
  have hml:m.length=xs.length:=hp.length_eq
  have HE:=Hi (show NodesOut (fun m=>m.Perm K) w (.returned (.slice (some ⟨g,0,none⟩) xs.length c1)) w2 from
   ⟨some ⟨g,0,none⟩,c1,m,hp.trans HP.out,by rw [hml],cs_rd hcs,⟨fun a ha=>(by cases ha; exact HGB.out),fun h=>(by cases h)⟩,HB.out.trans (ht.below (fun k _ hk=>by rw [hk]; exact HGB.out) HB.out.size)⟩)
  clear hp hs hcs ht hml
  go_wp2
  go_ret
  exact HE.out
theorem nodes_any {P M1 M2:Nat} {T:Tr} {C:List Kid} {F:Nat→Prop} (w:World) (h:Lay w P M1 M2 T C F) (hT:T.length≤5000) :
  Calls Tryz.prog 98 #[.pointer (some ⟨P,0,none⟩)] w (NodesOut (fun m=>m.Perm (T.map Prod.fst)) w):=by
 have HL:=Hi h
 have hk:(spots T).map Prod.fst=T.map Prod.fst:=by unfold spots; rw [List.map_map]; rfl
 have HSO:=Hi (fun W (hL:Lay W P M1 M2 T C F) (w1:World) (hu:AgAt w1 W.heap.size #[.map (some M1)]) (hb:Below W.heap.size W w1)=>sortedFunc_any (gf:=258) (lb:=#[.pointer (some ⟨W.heap.size,0,none⟩)]) (K:=T.map Prod.fst) w1
  (enters_of Tryz.func258 (by kernel_rfl) rfl) ((keysA1_seq (F0:=fun k=>w1.heap.size≤k) w1 hu (hL.spots.below hb) (fun h=>by have h1:=hL.spots.lt; have h2:=hb.size; have:w1.heap.size≤M1:=h; omega)).imp (fun xs hx=>by rw [hk] at hx; exact hx) (fun _ h=>h))
  (fun pre ⟨rest,hr⟩=>by have:=hr.length_eq; rw [List.length_append,hk,List.length_map] at this; omega) (by rw [List.length_map]; exact hT))
 clear h hk hT
 go_enter Tryz.func98,Tryz.ntmps98
 go_wp2_with fail
 refine (ours_any _ HL.out).mono ?_
 rintro e w1 ⟨rfl,rfl⟩
 have y0:=HL.out.cell0
 go_wp2_with fail
 refine (keysA_any (some M1) w).mono ?_
 rintro e w1 ⟨rfl,hu,hb⟩
 have HS:=Hi (HSO.out w HL.out w1 hu hb)
 have HB:=Hi hb
 clear hu hb HSO HL y0
 go_wp2_with fail
 refine HS.out.mono ?_
 rintro e w2 ⟨p,c,m,h1,rfl,h2,h3,h4⟩
 have HE:=Hi (show NodesOut (fun m=>m.Perm (T.map Prod.fst)) w (.returned (.slice p m.length c)) w2 from ⟨p,c,m,h1,rfl,h2,⟨fun a ha=>Nat.le_trans HB.out.size (h3.1 a ha),h3.2⟩,HB.out.trans (h4.mono HB.out.size)⟩)
 clear h1 h2 h3 h4
 go_wp2
 go_ret
 exact HE.out
theorem below_any {P M1 M2:Nat} {T:Tr} {C:List Kid} {F:Nat→Prop} (p:Qm.St) (w:World) (h:Lay w P M1 M2 T C F) (hp:StWf p) (hT:T.length≤5000) :
  Calls Tryz.prog 260 #[.pointer (some ⟨P,0,none⟩),snV p] w (NodesOut (fun m=>m.Perm (kids T p)) w):=by
 have hb:=(Below.refl w.heap.size w).alloc (Nat.le_refl _) (.cells #[.int .i64 p.1,.int .i64 p.2] 35)
 have HN:=Hi (AgAt.new w #[.int .i64 p.1,.int .i64 p.2] 35)
 have HL:=Hi (h.kept hb)
 have HB:=Hi hb
 have HWN:=Hi hp
 obtain ⟨ko,hko⟩:∃ k,k=kidOf C p:=⟨_,rfl⟩
 have HKO:=Hi hko
 have hkl:(kids T p).length≤5000:=by
  unfold kids
  rw [List.length_map]
  exact Nat.le_trans (List.length_filter_le _ _) hT
 have HLT:=Hi (fun k hk=>h.lt k hk)
 have HSO:=Hi (fun (w1:World) (hL:Lay w1 P M1 M2 T C F) {b0:Nat} (hu:AgAt w1 b0 #[.map ko])=>show Calls Tryz.prog 186 #[.func (.func 287) #[] #[.pointer (some ⟨b0,0,none⟩)],.func (.func 168) #[] #[]] w1 (NodesOut (fun m=>m.Perm (kids T p)) w1) from by
  refine sortedFunc_any (gf:=287) (lb:=#[.pointer (some ⟨b0,0,none⟩)]) (K:=kids T p) (Sp:=fun pre=>∃ rest,(pre ++ rest).Perm (kids T p)) w1 (enters_of Tryz.func287 (by kernel_rfl) rfl) ?_ (fun pre ⟨rest,hr⟩=>by have:=hr.length_eq; rw [List.length_append] at this; omega) hkl
  cases ko with
  | none =>
   have hk:=hL.kidNone hko.symm
   exact (keysB1_nil w1 hu).imp (fun xs hx=>by rw [hx,hk]) (fun _ h=>h.elim)
  | some kb =>
   obtain ⟨c,-,-,-,hm,-,hperm⟩:=hL.kidSome hko.symm
   have hn:(nodesOf c.l).map Prod.fst=c.l:=by unfold nodesOf; rw [List.map_map,show (Prod.fst ∘ fun n:Qm.St=>(n,Value.agg #[]))=id from rfl,List.map_id]
   refine (keysB1_seq (F0:=fun k=>w1.heap.size≤k) w1 hu hm (fun h=>by have:=hm.lt; have:w1.heap.size≤kb:=h; omega)).imp (fun xs hx=>?_) (fun pre ⟨rest,hr⟩=>⟨rest,?_⟩)
   ·rw [hn] at hx; exact hx.trans hperm
   ·rw [hn] at hr; exact hr.trans hperm)
 clear h hb hp hko hT hkl
 go_enter Tryz.func260,Tryz.ntmps260
 go_wp2_with fail
 refine (ours_any _ HL.out).mono ?_
 rintro e w1 ⟨rfl,rfl⟩
 go_upto_region 3 with fail
 generalize w.alloc (.cells #[.int .i64 p.1,.int .i64 p.2] 35)=w1 at *
 have hbd:=Below.drew (Below.refl w1.heap.size w1)
 replace HL:=Hi (HL.out.kept hbd)
 replace HN:=Hi (AgAt.kept HN.out hbd)
 replace HB:=Hi (HB.out.trans (hbd.mono HB.out.size))
 refine wp_region_held_drew (S:=fun W=>Below w1.drew.heap.size w1.drew W) (by kernel_rfl) (Below.refl _ _) (fun hS=>?_)
 clear hbd
 generalize w1.drew=wd at *
 refine tX 0 rfl hS ?_
 refine tX 1 rfl hS ?_
 refine tX 2 rfl hS ?_
 refine tK 3 (v:=?_) rfl ?_ hS ?_
 rotate_left
 ·intro W hSW
  have y1:=(HL.out.kept hSW).cell1
  go_simp
  all_goals with_reducible rfl
 go_simp
 refine tK 4 (v:=snV p) rfl (fun W hSW=>exec_load_ag stT rfl rfl rfl (AgAt.kept HN.out hSW)) hS ?_
 go_simp
 refine tK 5 (v:=.map ko) rfl (fun W hSW=>exec_lookup rfl rfl rfl (by rw [HKO.out]; exact (HL.out.kept hSW).lookB _ HWN.out)) hS ?_
 go_simp
 refine rD 6 rfl (fun K hK=>?_)
 go_simp
 go_wp2_with ((go_at_call 244; refine (keysB_any ko _).mono ?_; rintro e wn ⟨rfl,hun,hbn⟩))
 have HU:=Hi hun
 have HBN:=Hi hbn
 replace HL:=Hi (HL.out.kept hbn)
 replace HB:=Hi (HB.out.trans (hbn.mono HB.out.size))
 have HWN2:=Hi (show wd.heap.size<wn.heap.size from AgAt.lt hun)
 refine hK.out _ _ (hS.trans (hbn.mono hS.size)) (fun hS=>?_)
 clear hK K hbn hun
 refine rD 7 rfl (fun K hK=>?_)
 go_simp
 go_wp2_with ((go_at_call 186; refine (HSO.out wn HL.out HU.out).mono ?_; rintro e w5 ⟨p5,c5,m5,h5,rfl,h6,h7,h8⟩))
 have HO:=Hi (show NodesOut (fun xs=>xs.Perm (kids T p)) w (.returned (.slice p5 m5.length c5)) w5 from ⟨p5,c5,m5,h5,rfl,h6,⟨fun a ha=>Nat.le_trans HB.out.size (h7.1 a ha),h7.2⟩,HB.out.trans (h8.mono HB.out.size)⟩)
 have HB8:=Hi h8
 refine hK.out _ _ (hS.trans (h8.mono hS.size)) (fun hS=>?_)
 clear hK K h5 h6 h7 h8
 refine tX 8 rfl hS ?_
 go_simp
 refine wpAnyH_done (by kernel_rfl) ?_ _
 go_simp
 clear hS
 go_wp2
 go_ret
 exact HO.out
end Go.Proofs.YthfhefdfehlbkaaGreat
namespace Go.Proofs.YthfhefdfehlbkaaGreat.Rtm
open Tm
def sibs (R:Tr) (p:Qm.St):List Sbm.Sib:=(R.filter fun e=>e.2.1 == p).map fun e=>(e.2.2,e.1)
theorem sibs_kids {T:Tr} (nd:(T.map Prod.fst).Nodup) (p:Qm.St) {m:List Qm.St} (hp:m.Perm (kids T p)) (key:Qm.St→ByteArray) (hk:∀ n s,Tm.look T n=some s→key n=s.2):(m.map fun n=>(key n,n)).Perm (sibs T p):=by
 refine (hp.map _).trans (List.Perm.of_eq ?_)
 unfold kids sibs
 rw [List.map_map]
 refine List.map_congr_left fun e he=>?_
 have he2:=(List.mem_filter.1 he).1
 show (key e.1,e.1)=(e.2.2,e.1)
 rw [hk e.1 e.2 (look_some nd he2)]
end Go.Proofs.YthfhefdfehlbkaaGreat.Rtm
namespace Go.Proofs.YthfhefdfehlbkaaGreat
open Go.RowKit
theorem kcompare_any (a b:ByteArray) (w:World):Calls Tryz.prog 336 #[.string a,.string b] w fun e w'=>e=.returned (.int .i64 (Lib.compareBytes a.data.toList b.data.toList))∧w=w':=by
 have H:=Hi (Tryz.strings_Compare a b)
 go_enter Tryz.func336,Tryz.ntmps336
 go_wp2_with fail
 refine (H.out _).mono ?_
 rintro e w' ⟨rfl,rfl⟩
 go_wp2
 go_ret
 exact ⟨rfl,rfl⟩
open Go.RowKit
theorem qcompare_gr (t r t' r':Int) (w:World) :
  Calls Tryz.prog 168 #[.agg #[.int .i64 t,.int .i64 r],.agg #[.int .i64 t',.int .i64 r']] w fun e w'=>e=.returned (.int .i64 (qcmpS t r t' r'))∧Gr w w':=by
 have HB:=Hi (((Gr.refl w).alloc (.cells #[.int .i64 t,.int .i64 r] 35)).alloc (.cells #[.int .i64 t',.int .i64 r'] 35))
 by_cases h0:t=t'
 ·subst h0
  by_cases h1:r=r'
  ·subst h1
   have HR:=Hi (show qcmpS t r t r=0 from by simp [qcmpS])
   go_enter Tryz.func168,Tryz.ntmps168
   go_wp2
   go_ret
   rw [HR.out]
   exact ⟨rfl,HB.out⟩
  ·have e1:((r == r'):Bool)=false:=by simpa using h1
   by_cases h2:r<r'
   ·have HR:=Hi (show qcmpS t r t r' = -1 from by simp [qcmpS,h1,h2])
    go_enter Tryz.func168,Tryz.ntmps168
    go_wp2
    go_ret
    rw [HR.out]
    exact ⟨rfl,HB.out⟩
   ·have d2:decide (r<r')=false:=decide_eq_false h2
    have HR:=Hi (show qcmpS t r t r'=1 from by simp [qcmpS,h1,h2])
    go_enter Tryz.func168,Tryz.ntmps168
    go_wp2
    go_ret
    rw [HR.out]
    exact ⟨rfl,HB.out⟩
 ·have e1:((t == t'):Bool)=false:=by simpa using h0
  by_cases h2:t<t'
  ·have HR:=Hi (show qcmpS t r t' r' = -1 from by simp [qcmpS,h0,h2])
   go_enter Tryz.func168,Tryz.ntmps168
   go_wp2
   go_ret
   rw [HR.out]
   exact ⟨rfl,HB.out⟩
  ·have d2:decide (t<t')=false:=decide_eq_false h2
   have HR:=Hi (show qcmpS t r t' r'=1 from by simp [qcmpS,h0,h2])
   go_enter Tryz.func168,Tryz.ntmps168
   go_wp2
   go_ret
   rw [HR.out]
   exact ⟨rfl,HB.out⟩
theorem qcmpS_lt (a b:Qm.St):decide (qcmpS a.1 a.2 b.1 b.2<0)=decide (Qm.ltS a b):=by
 rcases Qm.ltS_tri a b with h | h | h
 ·rw [show qcmpS a.1 a.2 b.1 b.2 = -1 from cmpV_lt h,decide_eq_true h]; rfl
 ·subst h
  rw [show qcmpS a.1 a.2 a.1 a.2=0 from cmpV_eq a,decide_eq_false (Qm.ltS_irrefl a)]; rfl
 ·rw [show qcmpS a.1 a.2 b.1 b.2=1 from cmpV_gt h,decide_eq_false (Qm.ltS_asymm h)]; rfl
theorem key_cases (a b:ByteArray):(Lib.compareBytes a.data.toList b.data.toList = -1∧Op.bytesLess a.data.toList b.data.toList=true∧(a.toList == b.toList)=false)∨a=b ∨
  (Lib.compareBytes a.data.toList b.data.toList=1∧Op.bytesLess b.data.toList a.data.toList=true∧(a.toList == b.toList)=false):=by
 rw [ByteArray.toList_eq,ByteArray.toList_eq]
 rcases Sbm.key_tri a b with h | h | h
 ·refine Or.inl ⟨?_,h,beq_eq_false_iff_ne.2 fun e=>?_⟩
  ·rw [Km.compare_less,if_neg (fun e=>?_),if_pos h]
   rw [e] at h
   rw [Km.less_irrefl] at h
   cases h
  ·rw [e] at h
   rw [Km.less_irrefl] at h
   cases h
 ·exact Or.inr (Or.inl h)
 ·refine Or.inr (Or.inr ⟨?_,h,beq_eq_false_iff_ne.2 fun e=>?_⟩)
  ·rw [Km.compare_less,if_neg (fun e=>?_),if_neg (fun e=>?_)]
   ·exact absurd e (Sbm.key_asymm h)
   ·rw [e] at h
    rw [Km.less_irrefl] at h
    cases h
  ·rw [e] at h
   rw [Km.less_irrefl] at h
   cases h
theorem before_gr (a b:Sbm.Sib) (w:World) :
  Calls Tryz.prog 310 #[sbV a,sbV b] w fun e w'=>e=.returned (.bool (decide (Sbm.ltB a b)))∧Gr w w':=by
 obtain ⟨k,t,r⟩:=a
 obtain ⟨k',t',r'⟩:=b
 have HB:=Hi (((Gr.refl w).alloc (.cells #[.string k,.int .i64 t,.int .i64 r] 126)).alloc (.cells #[.string k',.int .i64 t',.int .i64 r'] 126))
 have HC:=Hi (kcompare_any k k')
 unfold sbV
 dsimp only
 rcases key_cases k k' with ⟨h1,h2,h3⟩ | rfl | ⟨h1,h2,h3⟩
 ·have HR:=Hi (show decide (Sbm.ltB (k,t,r) (k',t',r'))=true from decide_eq_true (Or.inl h2))
  rw [h1] at HC
  clear h1 h2
  go_enter Tryz.func310,Tryz.ntmps310
  go_wp2_with fail
  refine (HC.out _).mono ?_
  rintro e w' ⟨rfl,rfl⟩
  go_wp2
  go_ret
  rw [HR.out]
  exact ⟨rfl,HB.out⟩
 ·by_cases h0:t=t'∧r=r'
  ·obtain ⟨rfl,rfl⟩:=h0
   have HR:=Hi (show decide (Sbm.ltB (k,t,r) (k,t,r))=false from decide_eq_false (Sbm.ltB_irrefl _))
   go_enter Tryz.func310,Tryz.ntmps310
   go_wp2
   go_ret
   rw [HR.out]
   exact ⟨rfl,HB.out⟩
  ·have e1:((t == t'):Bool)=false∨(t=t'∧((r == r'):Bool)=false):=by
    by_cases e:t=t'
    ·exact Or.inr ⟨e,by simpa using fun h=>h0 ⟨e,h⟩⟩
    ·exact Or.inl (by simpa using e)
   have hz:Lib.compareBytes k.data.toList k.data.toList=0:=(Km.cmp_zero _ _).2 rfl
   rw [hz] at HC
   have HR:=Hi (show decide (Sbm.ltB (k,t,r) (k,t',r'))=decide (qcmpS t r t' r'<0) from by
    rw [qcmpS_lt (t,r) (t',r')]
    refine decide_eq_decide.2 ⟨fun h=>?_,fun h=>Or.inr ⟨rfl,h⟩⟩
    rcases h with h | ⟨-,h⟩
    ·exact absurd h (Sbm.key_irrefl _)
    ·exact h)
   have HS:=Hi (qcompare_gr t r t' r')
   clear hz h0
   rcases e1 with e1 | ⟨rfl,e1⟩
   ·go_enter Tryz.func310,Tryz.ntmps310
    go_wp2_with fail
    refine (HC.out _).mono ?_
    rintro e w' ⟨rfl,rfl⟩
    go_wp2_with fail
    refine (HS.out _).mono ?_
    rintro e w' ⟨rfl,hg⟩
    generalize qcmpS t r t' r'=c at *
    have HG:=Hi (HB.out.trans hg)
    clear hg
    go_wp2
    go_ret
    rw [HR.out]
    exact ⟨rfl,HG.out⟩
   ·go_enter Tryz.func310,Tryz.ntmps310
    go_wp2_with fail
    refine (HC.out _).mono ?_
    rintro e w' ⟨rfl,rfl⟩
    go_wp2_with fail
    refine (HS.out _).mono ?_
    rintro e w' ⟨rfl,hg⟩
    generalize qcmpS t r t r'=c at *
    have HG:=Hi (HB.out.trans hg)
    clear hg
    go_wp2
    go_ret
    rw [HR.out]
    exact ⟨rfl,HG.out⟩
 ·have HR:=Hi (show decide (Sbm.ltB (k,t,r) (k',t',r'))=false from decide_eq_false fun h=>by
   rcases h with h | ⟨h,-⟩
   ·exact Sbm.key_asymm h h2
   ·dsimp only at h
    subst h
    exact Sbm.key_irrefl _ h2)
  rw [h1] at HC
  clear h1 h2
  go_enter Tryz.func310,Tryz.ntmps310
  go_wp2_with fail
  refine (HC.out _).mono ?_
  rintro e w' ⟨rfl,rfl⟩
  go_wp2
  go_ret
  rw [HR.out]
  exact ⟨rfl,HB.out⟩
theorem sortFn_gr (a b:Sbm.Sib) (w:World) :
  Calls Tryz.prog 309 #[sbV a,sbV b] w fun e w'=>e=.returned (.int .i64 (Sbm.cmpB a b))∧Gr w w':=by
 have HB:=Hi (((Gr.refl w).alloc (.cells #[.string a.1,.int .i64 a.2.1,.int .i64 a.2.2] 126)).alloc (.cells #[.string b.1,.int .i64 b.2.1,.int .i64 b.2.2] 126))
 have HX:=Hi ((SbAt.start w a 126).alloc (.cells #[.string b.1,.int .i64 b.2.1,.int .i64 b.2.2] 126))
 have HY:=Hi (by have h:=SbAt.start (w.alloc (.cells #[.string a.1,.int .i64 a.2.1,.int .i64 a.2.2] 126)) b 126; rwa [show (w.alloc (.cells #[.string a.1,.int .i64 a.2.1,.int .i64 a.2.2] 126)).heap.size=w.heap.size+1 from by simp] at h)
 have H1:=Hi (before_gr a b)
 have H2:=Hi (before_gr b a)
 by_cases h1:Sbm.ltB a b
 ·have HR:=Hi (show Sbm.cmpB a b = -1 from if_pos h1)
  rw [decide_eq_true h1] at H1
  clear h1 H2
  unfold sbV at *
  go_enter Tryz.func309,Tryz.ntmps309
  go_wp2_with fail
  refine (H1.out _).mono ?_
  rintro e w' ⟨rfl,hg⟩
  have HG:=Hi (HB.out.trans hg)
  clear hg
  go_wp2
  go_ret
  rw [HR.out]
  exact ⟨rfl,HG.out⟩
 ·rw [decide_eq_false h1] at H1
  by_cases h2:Sbm.ltB b a
  all_goals
   first
   |have HR:=Hi (show Sbm.cmpB a b=1 from by unfold Sbm.cmpB; rw [if_neg h1,if_pos h2])
    rw [decide_eq_true h2] at H2
   |have HR:=Hi (show Sbm.cmpB a b=0 from by unfold Sbm.cmpB; rw [if_neg h1,if_neg h2])
    rw [decide_eq_false h2] at H2
   clear h1 h2
   unfold sbV at *
   go_enter Tryz.func309,Tryz.ntmps309
   go_wp2_with fail
   refine (H1.out _).mono ?_
   rintro e w' ⟨rfl,hg⟩
   have HG:=Hi (HB.out.trans hg)
   have ya:=(HX.out.kept hg.below)
   have yb:=(HY.out.kept hg.below)
   have a0:=ya.cell0
   have a1:=ya.cell1
   have a2:=ya.cell2
   have b0:=yb.cell0
   have b1:=yb.cell1
   have b2:=yb.cell2
   clear hg ya yb
   go_wp2_with fail
   refine (H2.out _).mono ?_
   rintro e w2 ⟨rfl,hg⟩
   have HG2:=Hi (HG.out.trans hg)
   clear hg
   go_wp2
   go_ret
   rw [HR.out]
   exact ⟨rfl,HG2.out⟩
open Go.RowKit
theorem sbclone_any (p:Option Addr) (cap:Nat) (l:List Sbm.Sib) (w:World) (h:Rd w p (sbCells l)) (hpn:p=none→cap=0) (hl:l.length≤5000) :
  Calls Tryz.prog 307 #[.slice p l.length cap] w (SbOut (fun m=>m=l) w):=by
 obtain ⟨i0,hi,hz0,hz1,hz2⟩:=info_split info_sib
 have qT:∀ (w:World) (a:Option Addr) (n c n' c':Nat),(binOp .eql 114 (.slice a n c) (.slice none n' c')).run Tryz.prog w=.ok (.bool a.isNone) w:=fun w a n c n' c'=>Lib.run_eql_slice_nil w _ _ a n c n' c' Tryz.underlying114
 cases p with
 | none =>
  obtain rfl:=rd_empty h rfl
  have HE:=Hi (show SbOut (fun m=>m=[]) w (.returned (.slice none 0 0)) w from ⟨none,0,[],rfl,rfl,World.ownsRow_nil _ _ _ _,Below.refl _ _⟩)
  clear h hpn
  go_enter Tryz.func307,Tryz.ntmps307
  go_wp2
  go_ret
  exact HE.out
 | some a =>
  have hb:Below w.heap.size w (w.alloc (.cells #[] 126)):=(Below.refl _ _).alloc (Nat.le_refl _) _
  have HR:=Hi (h.below hb)
  have HB:=Hi hb
  have HO:=Hi (World.ownsRow_lit (base:=w.heap.size) (e:=126) (size:=3) w #[] 0 (Nat.le_refl _) (by simp [maxLen]) (by simp))
  clear h hb hpn
  go_enter Tryz.func307,Tryz.ntmps307
  go_wp2_with (at_builtin; refine wpList_append_k rfl _ _ 114 rfl w.heap.size 126 i0 _ 3 32 Tryz.underlying114 hi hz0 hz1 (by decide) hz2 (by decide) rfl _ 0 [] rfl HO.out _ l.length cap (sbCells l) rfl (sbCells_length l) HR.out (fun e=>by cases e) sbCells_one (by omega) (by simp) ?_)
  intro p' c' w1 ho1 hg1 _
  have hbw:=HB.out.grown hg1 (by simp) (fun k hk=>by cases hk; exact Nat.le_refl _)
  have HE:=Hi (show SbOut (fun m=>m=l) w (.returned (.slice p' l.length c')) w1 from ⟨p',c',l,rfl,rfl,by simpa using ho1,hbw⟩)
  clear ho1 hg1 hbw
  go_wp2
  go_ret
  exact HE.out
theorem sbLtOf (x y:Sbm.Sib):ltOf Sbm.cmpB x y=decide (Sbm.ltB x y):=by
 unfold ltOf
 exact decide_eq_decide.2 (Sbm.cmpB_lt x y)
theorem sb_swo:Go.Sort.SWO (ltOf Sbm.cmpB) where
 irrefl x:=by rw [sbLtOf]; exact decide_eq_false (Sbm.ltB_irrefl x)
 trans x y z h k:=by rw [sbLtOf] at *; exact decide_eq_true (Sbm.ltB_trans (of_decide_eq_true h) (of_decide_eq_true k))
 ntrans x y z h k:=by rw [sbLtOf] at *; exact decide_eq_false (Sbm.ltB_le (of_decide_eq_false k) (of_decide_eq_false h))
theorem sb_lays (blk off size:Nat) (w:World):CmpLays Tryz.prog 309 #[] sbC 3 Sbm.cmpB blk off size w:=fun _ _ _ _ x y =>
 (sortFn_gr x y _).mono fun _ _ ⟨he,hw⟩=>⟨he,hw⟩
theorem sb_flat (l:List Sbm.Sib) (j:Nat) (h:j<l.length * 3):(sbCells l)[j]?=some (Go.Sort.flatK sbC 3 l.toArray)[j]!:=by
 rw [Go.Sort.get_flatK _ _ _ _ (by simpa using h)]
 obtain ⟨h0,h1,h2⟩:=sbCells_get l (j / 3) (by omega)
 have hd:l.toArray[j / 3]! = Sbm.sbOf l (j / 3):=by
  have:j / 3<l.length:=by omega
  rw [Sbm.sbOf_lt this]
  simp [this]
 rw [hd]
 have h3:j % 3=0∨j % 3=1∨j % 3=2:=by omega
 rcases h3 with he | he | he
 ·rw [he,show (sbC (Sbm.sbOf l (j / 3)))[0]! = .string (Sbm.sbOf l (j / 3)).1 from rfl,← h0,show j / 3 * 3=j from by omega]
 ·rw [he,show (sbC (Sbm.sbOf l (j / 3)))[1]! = .int .i64 (Sbm.sbOf l (j / 3)).2.1 from rfl,← h1,show j / 3 * 3+1=j from by omega]
 ·rw [he,show (sbC (Sbm.sbOf l (j / 3)))[2]! = .int .i64 (Sbm.sbOf l (j / 3)).2.2 from rfl,← h2,show j / 3 * 3+2=j from by omega]
theorem sb_holds {w:World} {B g cap:Nat} {l:List Sbm.Sib} (h:w.ownsRow B 126 3 (.slice (some ⟨g,0,none⟩) l.length cap) l.length (sbCells l)):Go.Sort.HoldsK sbC 3 w g 0 l.toArray:=fun j hj=>by
 have hj2:j<l.length * 3:=by simpa using hj
 refine ⟨?_,h.frozenAt _⟩
 rw [Nat.zero_add,h.cellAt j hj2,sb_flat l j hj2]
 rfl
theorem holds_rd {w:World} {g:Nat} {d:Array Sbm.Sib} (h:Go.Sort.HoldsK sbC 3 w g 0 d):Rd w (some ⟨g,0,none⟩) (sbCells d.toList):=fun _ =>
 ⟨g,0,rfl,fun i u hu=>by
  have hi:i<d.toList.length * 3:=by have:=(List.getElem?_eq_some_iff.1 hu).1; rw [sbCells_length] at this; exact this
  have h2:=sb_flat d.toList i hi
  rw [hu] at h2
  rw [(h i (by simpa using hi)).1]
  simpa using h2.symm⟩
theorem sbsort_turns (w:World) (g n:Nat) (d:Array Sbm.Sib) (os:Array Obj):Turns (fun k=>k=g) w (sortWorldK sbC 3 w g 0 n d os):=by
 refine ⟨rfl,rfl,rfl,?_,fun k hk hg=>?_⟩
 ·show w.heap.size≤(_ ++ os).size
  simp [Go.Sort.putRowK,Go.Sort.putRow,Go.Sort.mapBlock,Go.Sort.ahead]
 ·show (_ ++ os)[k]?=_
  rw [Array.getElem?_append_left (by simpa [Go.Sort.putRowK,Go.Sort.putRow,Go.Sort.mapBlock,Go.Sort.ahead] using hk)]
  simp only [Go.Sort.putRowK,Go.Sort.putRow,Go.Sort.mapBlock,Go.Sort.ahead,Array.getElem?_modify]
  rw [if_neg (fun e=>hg e.symm)]
theorem sbsortFunc_any (B g cap:Nat) (l:List Sbm.Sib) (w:World) (h:w.ownsRow B 126 3 (.slice (some ⟨g,0,none⟩) l.length cap) l.length (sbCells l)) (hl:l.length≤5000) :
  Calls Tryz.prog 308 #[.slice (some ⟨g,0,none⟩) l.length cap,.func (.func 309) #[] #[]] w fun e w' =>
   e=.returned (.tuple #[])∧∃ m:List Sbm.Sib,m.Perm l∧Sbm.Srt m∧Rd w' (some ⟨g,0,none⟩) (sbCells m)∧Turns (fun k=>k=g) w w':=by
 have eg:∀ args w,(callFunc 309 args).run Tryz.prog w=.ok (.enter 309 args) w:=enters_of Tryz.func309 (by kernel_rfl) rfl
 have hg:g<w.heap.size:=(World.ownsRow.lt h g rfl).2
 have hH:=sb_holds h
 have hcon:=AnyQ.slices_SortFunc Tryz.sortSb 3 Tryz.isAgg126 Tryz.sizeOf126 sbC (fun _=>rfl) (fun x v hv=>by simp [sbC] at hv; rcases hv with rfl | rfl | rfl <;> rfl) Sbm.cmpB sb_swo 309 #[] g 0 cap l.toArray w eg (sb_lays g 0 _ w) hH hg (by simp; omega)
 change Calls Tryz.prog 308 _ _ _ at hcon
 rw [List.size_toArray] at hcon
 refine hcon.mono ?_
 rintro e w' ⟨rfl,d',n,os,⟨hs,-,hp⟩,hsort,rfl⟩
 have hsz:d'.size=l.length:=by simpa using hs
 refine ⟨rfl,d'.toList,?_,Sbm.srt_of fun i j hij hj=>?_,?_,sbsort_turns w g n d' os⟩
 ·have h3:(d'.toList.take l.length).Perm l:=by rw [← hsz] at hp; simpa [hsz] using hp
  rwa [List.take_of_length_le (by simp [hsz])] at h3
 ·have hj2:j<d'.size:=by simpa using hj
  have:=hsort i j (Nat.zero_le _) hij (by omega)
  rw [sbLtOf] at this
  have hi2:i<d'.size:=by omega
  have e1:d'[j]! = Sbm.sbOf d'.toList j:=by rw [Sbm.sbOf_lt hj]; simp [hj2]
  have e2:d'[i]! = Sbm.sbOf d'.toList i:=by rw [Sbm.sbOf_lt (by simpa using hi2)]; simp [hi2]
  rw [e1,e2] at this
  exact of_decide_eq_false this
 ·exact holds_rd (holdsK_sortWorldK_c sbC 3 w g 0 l.toArray d' n os hH hg (by simpa using hs))
def SortedOut (l:List Sbm.Sib) (w:World) (e:Ending) (w':World):Prop :=
 ∃ p c m,m.Perm l∧Sbm.Srt m∧e=.returned (.slice p m.length c)∧Rd w' p (sbCells m)∧(∀ a,p=some a→w.heap.size≤a.block)∧(p=none→c=0)∧Below w.heap.size w w'
theorem sort_sib (p:Option Addr) (cap:Nat) (l:List Sbm.Sib) (w:World) (h:Rd w p (sbCells l)) (hpn:p=none→cap=0) (hl:l.length≤5000) :
  Calls Tryz.prog 261 #[.slice p l.length cap] w (SortedOut l w):=by
 have HC:=Hi (sbclone_any p cap l w h hpn hl)
 clear h hpn
 go_enter Tryz.func261,Tryz.ntmps261
 go_wp2_with fail
 refine HC.out.mono ?_
 rintro e w1 ⟨p1,c1,l',rfl,rfl,ho,hb⟩
 obtain ⟨p2,c2,hv,hrd,-,-,hnil,hown⟩:=own_rd ho
 obtain ⟨rfl,rfl⟩:p1=p2∧c1=c2:=by cases hv; exact ⟨rfl,rfl⟩
 clear hv
 rcases Nat.eq_zero_or_pos l'.length with h0 | h0
 ·have hx:l'=[]:=List.eq_nil_of_length_eq_zero h0
  have HE:=Hi (show SortedOut l' w (.returned (.slice p1 0 c1)) w1 from ⟨p1,c1,[],by rw [hx],List.Pairwise.nil,rfl,Rd.nil _ _,fun a ha=>(hown a ha).1,hnil,hb⟩)
  rw [h0]
  have HN:=Hi (fun W=>AnyF.slices_SortFunc_none (P:=Tryz.prog) (ρ:=Tryz.sortSb_ren) Tryz.sortSb p1 c1 (.func (.func 309) #[] #[]) W)
  change Hid (∀ W,Calls Tryz.prog 308 _ _ _) at HN
  clear ho hb h0 hx hrd hnil hown HC
  go_wp2_with fail
  refine (HN.out _).mono ?_
  rintro e w2 ⟨rfl,rfl⟩
  go_wp2
  go_ret
  exact HE.out
 ·obtain ⟨b,o,rfl,-⟩:=hrd.addr (by rw [sbCells_length]; omega)
  obtain ⟨hB,-,-,hz⟩:=hown _ rfl
  obtain rfl:o=0:=by simpa using hz
  have HS:=Hi (sbsortFunc_any w.heap.size b c1 l' w1 ho hl)
  have HB:=Hi hb
  have HGB:=Hi (show w.heap.size≤b from hB)
  clear ho hb h0 hrd hnil hown hz HC hB
  go_wp2_with fail
  refine HS.out.mono ?_
  rintro e w2 ⟨rfl,m,hp,hs,hr,ht⟩
  have hml:m.length=l'.length:=hp.length_eq
  have HE:=Hi (show SortedOut l' w (.returned (.slice (some ⟨b,0,none⟩) l'.length c1)) w2 from
   ⟨some ⟨b,0,none⟩,c1,m,hp,hs,by rw [hml],hr,fun a ha=>(by cases ha; exact HGB.out),fun h=>(by cases h),HB.out.trans (ht.below (fun k _ hk=>by rw [hk]; exact HGB.out) HB.out.size)⟩)
  clear hp hs hr ht hml
  go_wp2
  go_ret
  exact HE.out
open Go.RowKit
open Tm (Sp Tr kids)
theorem Rd.stW {w:World} {b o:Nat} {l:List Qm.St} (h:Rd w (some ⟨b,o,none⟩) (stCells l)) (i:Nat) (hi:i<l.length):w.rangeAt b (o+i * 2) [.int .i64 (Qm.stOf l i).1,.int .i64 (Qm.stOf l i).2]:=by
 intro j v hv
 obtain ⟨h0,h1⟩:=stCells_get l i hi
 rw [Nat.add_assoc]
 match j,hv with
 | 0,hv=>exact h.cell (by rw [Nat.add_zero,h0]; exact hv)
 | 1,hv=>exact h.cell (by rw [h1]; exact hv)
theorem exec_load_stW {c:Act} {o:Oper} {x:Operand} {w:World} (ho:o.op=.load 35 x) {b s i:Nat} (hx:c.eval x=.pointer (some ⟨b,s+i * 2,none⟩)) {l:List Qm.St} (hrd:Rd w (some ⟨b,s,none⟩) (stCells l)) (hi:i<l.length) :
  (execOp c.eval o).run Tryz.prog w=.ok (.value (snV (Qm.stOf l i))) w:=by
 obtain ⟨d,hu⟩:=stT.und
 unfold execOp
 simp only [ho,hx,Sem.run_bind,run_loadAt_mid w b (s+i * 2) _ [.int .i64 (Qm.stOf l i).1,.int .i64 (Qm.stOf l i).2] _ (hrd.stW i hi) hu rfl stT.size,Result.andThen_ok,Sem.run_pure]
def ksOf (T:Tr) (l:List Qm.St):List Sbm.Sib:=l.map fun n=>(((Tm.look T n).getD zS).2,n)
theorem ksOf_len (T:Tr) (l:List Qm.St):(ksOf T l).length=l.length:=List.length_map ..
theorem ksOf_get {T:Tr} {l:List Qm.St} {k:Nat} (h:k<l.length):(ksOf T l).take (k+1)=(ksOf T l).take k ++ [(((Tm.look T (Qm.stOf l k)).getD zS).2,Qm.stOf l k)]:=by
 rw [List.take_succ_eq_append_getElem (by rw [ksOf_len]; exact h)]
 simp [ksOf,Qm.stOf_lt h]
theorem ksOf_perm {T:Tr} (nd:(T.map Prod.fst).Nodup) {p:Qm.St} {l:List Qm.St} (hp:l.Perm (kids T p)):(ksOf T l).Perm (Rtm.sibs T p) :=
 Rtm.sibs_kids nd p hp (fun n=>((Tm.look T n).getD zS).2) (fun n s h=>by rw [h]; rfl)
theorem orowF_any {P M1 M2:Nat} {T:Tr} {C:List Kid} {F:Nat→Prop} (pt:Qm.St) (w:World) (h:Lay w P M1 M2 T C F) (hp:StWf pt) (hT:T.length≤200) (nd:(T.map Prod.fst).Nodup) :
  Calls Tryz.prog 189 #[.pointer (some ⟨P,0,none⟩),snV pt] w fun e w'=>∃ p' c' m,m.Perm (Rtm.sibs T pt)∧Sbm.Srt m∧e=.returned (.slice p' m.length c')∧Rd w' p' (sbCells m)∧(∀ a,p'=some a→w.heap.size≤a.block)∧Below w.heap.size w w':=by
 have hb0:Below w.heap.size w (w.alloc (.cells #[.int .i64 pt.1,.int .i64 pt.2] 35)):=(Below.refl _ _).alloc (Nat.le_refl _) _
 have HX:=Hi (AgAt.new w #[.int .i64 pt.1,.int .i64 pt.2] 35)
 have HBL:=Hi (below_any pt _ (h.kept hb0) hp (Nat.le_trans hT (by decide)))
 have HL0:=Hi (h.kept hb0)
 have HB0:=Hi hb0
 have HWF:=Hi h.wf
 have HT5:=Hi hT
 have HND:=Hi nd
 obtain ⟨i0,hi,hz0,hz1,hz2⟩:=info_split info_sib
 clear h hb0 hp hT nd
 go_enter Tryz.func189,Tryz.ntmps189
 go_wp2_with (refine wpList_load_ag stT rfl _ rfl _ rfl rfl HX.out ?_)
 refine HBL.out.mono ?_
 rintro e w1 ⟨p1,c1,l,hpk,rfl,hr1,-,hb1⟩
 have HL1:=Hi (HL0.out.kept hb1)
 have HR1:=Hi hr1
 have HB1:=Hi (HB0.out.trans (hb1.mono HB0.out.size))
 have HPK:=Hi hpk
 have hll:l.length≤200:=by
  rw [hpk.length_eq]
  unfold kids
  rw [List.length_map]
  exact Nat.le_trans (List.length_filter_le _ _) HT5.out
 have HLL:=Hi hll
 have HWK:=Hi (show ∀ n ∈ l,StWf n from fun n hn=>by
  obtain ⟨s,hs,-⟩:=Tm.kids_mem.1 (hpk.mem_iff.1 hn)
  exact HWF.out (n,s) hs)
 have HKL:=Hi (ksOf_len T l)
 clear hr1 hb1 hpk hll HBL HL0 HX
 go_wp2
 go_loopw [5,14] (fun v i wr=>∃ (k:Nat) (pr:Option Addr) (cr:Nat),i=.int .i64 (k:Int)∧k≤l.length∧v=.slice pr k cr∧wr.ownsRow w1.heap.size 126 3 (.slice pr k cr) k (sbCells ((ksOf T l).take k))∧Below w1.heap.size w1 wr) (fun _ i _=>l.length - (intOf i).toNat)
 case atStart=>exact ⟨0,none,0,rfl,Nat.zero_le _,rfl,World.ownsRow_nil _ _ _ _,Below.refl _ _⟩
 case round =>
  obtain ⟨k,pr,cr,rfl,hk,rfl,ho,hb⟩:=hrel
  have HO:=Hi ho
  have HB:=Hi hb
  clear ho hb
  by_cases hlt:k<l.length
  ·have HLT:=Hi hlt
   have hk5:k<200:=by have:=HLL.out; omega
   obtain ⟨b,o,rfl,-⟩:=HR1.out.addr (by rw [stCells_length]; omega)
   have HWN:=Hi (HWK.out (Qm.stOf l k) (by rw [Qm.stOf_lt hlt]; exact List.getElem_mem hlt))
   have HKT:=Hi (ksOf_get (T:=T) hlt)
   have HRW:=Hi (HR1.out.below HB.out)
   have HLW:=Hi (HL1.out.kept HB.out)
   obtain ⟨n,hn⟩:∃ n,Qm.stOf l k=n:=⟨_,rfl⟩
   rw [hn] at HWN HKT
   have HN:=Hi hn
   clear hn
   go_wp2_with (first
    | (refine wpList_value (v:=snV n) (by simp [Region.wanted]) (by rw [← HN.out]; exact exec_load_stW rfl rfl HRW.out HLT.out) ?_)
    | (
      refine wpList_store_newag stT rfl _ _ rfl rfl _ (A:=#[.int .i64 n.1,.int .i64 n.2]) rfl rfl rfl (stA_one _ _) ?_
      intro wA hvA hbA
      have HVA:=Hi hvA
      have HBA:=Hi (HB.out.trans (hbA.mono HB.out.size))
      have HOA:=Hi ((Turns.of_below (F:=fun _=>False) hbA).own HO.out (fun _ _ h=>h))
      have HSP:=Hi (spot_any n wA (HLW.out.kept hbA) HWN.out)
      clear hvA hbA)
    | (refine wpList_load_ag stT rfl _ rfl _ rfl rfl HVA.out ?_))
   refine HSP.out.mono ?_
   rintro e wB ⟨rfl,hbB⟩
   have HVB:=Hi (AgAt.kept HVA.out hbB)
   have HBB:=Hi (HBA.out.trans (hbB.mono HBA.out.size))
   have HOB:=Hi ((Turns.of_below (F:=fun _=>False) hbB).own HOA.out (fun _ _ h=>h))
   clear hbB HSP HVA HOA HO HBA HRW HLW
   generalize (Tm.look T n).getD zS=s at *
   generalize (Tm.look T n).isSome=ib at *
   go_wp2_with (first
    | (
      refine wpList_store_newag spT rfl _ _ rfl rfl _ (A:=spA s) rfl rfl rfl (spA_one _) ?_
      intro wC hvC hbC
      have y2:wC.cell? ⟨wB.heap.size,2,none⟩=some (.string s.2):=by rw [AgAt.cell hvC 2]; rfl
      have HVC:=Hi (AgAt.kept HVB.out hbC)
      have HBC:=Hi (HBB.out.trans (hbC.mono HBB.out.size))
      have HOC:=Hi ((Turns.of_below (F:=fun _=>False) hbC).own HOB.out (fun _ _ h=>h))
      clear hvC hbC)
    | (refine wpList_load_ag stT rfl _ rfl _ rfl rfl HVC.out ?_)
    | (
      refine wpList_append_k rfl _ _ 114 rfl w1.heap.size 126 i0 _ 3 32 Tryz.underlying114 hi hz0 hz1 (by decide) hz2 (by decide) rfl _ k (sbCells ((ksOf T l).take k)) rfl (World.ownsRow.alloc HOC.out _) _ 1 1 (sbCells [(s.2,n)]) rfl rfl (rd_sb1 wC (s.2,n) 126) (fun e=>by cases e) sbCells_one (by omega) (by have:=HBC.out.size; simp; omega) ?_
      intro pD cD wD hoD hgD _
      have HOD:=Hi hoD
      have HBD:=Hi (Below.grown (HBC.out.alloc HBC.out.size _) hgD (by have:=HBC.out.size; simp; omega) (fun j hj=>(World.ownsRow.lt HOC.out j hj).1))
      clear hoD hgD))
   go_roundw
   case rel=>exact ⟨k+1,pD,cD,by go_num,by have:=HLT.out; omega,rfl,by rw [HKT.out,sbCells_append]; exact HOD.out,HBD.out⟩
   case measure=>simp [intOf] <;> have:=HLT.out <;> omega
  ·obtain rfl:k=l.length:=by omega
   have htk:(ksOf T l).take l.length=ksOf T l:=by rw [← HKL.out,List.take_length]
   rw [htk] at HO
   rw [← HKL.out] at HO
   obtain ⟨hrd,hnm,-,-⟩:=own_rdK (ce:=sbC) HO.out
   have HSO:=Hi (sort_sib pr cr (ksOf T l) wr hrd hnm (by rw [HKL.out]; have:=HLL.out; omega))
   rw [HKL.out] at HSO
   clear hrd hnm htk
   go_wp2_with fail
   refine HSO.out.mono ?_
   rintro e w9 ⟨p',c',m,hp,hs,rfl,hr,hfr,-,hb9⟩
   have HE:=Hi (show ∃ p2 c2 m2,m2.Perm (Rtm.sibs T pt)∧Sbm.Srt m2∧Ending.returned (.slice p' m.length c')=.returned (.slice p2 m2.length c2)∧Rd w9 p2 (sbCells m2)∧(∀ a,p2=some a→w.heap.size≤a.block)∧Below w.heap.size w w9 from ⟨p',c',m,hp.trans (ksOf_perm HND.out HPK.out),hs,rfl,hr,fun a ha=>Nat.le_trans (HB1.out.trans (HB.out.mono HB1.out.size)).size (hfr a ha),HB1.out.trans ((HB.out.trans (hb9.mono HB.out.size)).mono HB1.out.size)⟩)
   clear hp hs hr hfr hb9
   go_wp2
   go_ret
   exact HE.out
end Go.Proofs.YthfhefdfehlbkaaGreat
