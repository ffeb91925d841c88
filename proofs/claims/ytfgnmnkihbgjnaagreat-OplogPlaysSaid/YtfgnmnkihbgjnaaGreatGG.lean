/-
  BATCHES, PLAINLY: which may be, when two are the same, their stamps, their bytes, how they are read, framed or not.
  No conditions.
  BATCHES IN MEMORY: rows of ops, a batch's four cells; what keeps them; loads, stores and answers of whole ones.
  No conditions.
  May a batch be: allRight, Right.
  No conditions but sizes.
  Are two batches the same: EqualFunc over rows of ops, Same.
  No conditions but sizes.
  A batch's stamps: Stamp, End.
  No conditions but sizes.
-/
import Derived.Test.YtfgnmnkihbgjnaaGreatSh
import Derived.Test.YtfgnmnkihbgjnaaGreatGF
import Derived.Test.YtfgnmnkihbgjnaaGreatGA
import Derived.Test.YtfgnmnkihbgjnaaGreatGB
import Derived.Test.YtfgnmnkihbgjnaaGreatGD
import Derived.Test.YtfgnmnkihbgjnaaGreatHC
import Derived.Test.YtfgnmnkihbgjnaaGreatOSame
set_option maxRecDepth 100000
set_option maxHeartbeats 4000000
namespace Go.Proofs.YtfgnmnkihbgjnaaGreat
open Go.RowKit
structure Bat where
 r:Int
 s:Int
 t:Int
 ops:List Opp
def Bat.zero:Bat:=⟨0,0,0,[]⟩
def rightT (x:Bat):Bool :=
 decide (0≤x.r∧x.r≤15) && decide (1≤x.s∧x.s≤512) && decide (1≤x.ops.length∧x.ops.length≤64) && decide (1≤x.t∧x.t≤1099511627776 - ((x.ops.length:Int) - 1)) && x.ops.all rightO
def headT (x:Bat):Bool:=decide (0≤x.r∧x.r≤15) && decide (1≤x.s∧x.s≤512) && decide (1≤x.ops.length∧x.ops.length≤64) && decide (1≤x.t∧x.t≤1099511627776 - ((x.ops.length:Int) - 1))
theorem rightT_iff {x:Bat}:rightT x=true↔(0≤x.r∧x.r≤15)∧(1≤x.s∧x.s≤512)∧(1≤x.ops.length∧x.ops.length≤64)∧(1≤x.t∧x.t≤1099511627776 - ((x.ops.length:Int) - 1))∧∀ y ∈ x.ops,rightO y=true:=by
 simp only [rightT,Bool.and_eq_true,decide_eq_true_eq,List.all_eq_true,and_assoc]
theorem rightT_head {x:Bat} (h:headT x=true):rightT x=x.ops.all rightO:=by
 unfold rightT; unfold headT at h; rw [h,Bool.true_and]
theorem rightT_nohead {x:Bat} (h:headT x=false):rightT x=false:=by
 unfold rightT; unfold headT at h; rw [h,Bool.false_and]
theorem headT_no {x:Bat} (h:¬ ((0≤x.r∧x.r≤15)∧(1≤x.s∧x.s≤512)∧(1≤x.ops.length∧x.ops.length≤64)∧(1≤x.t∧x.t≤1099511627776 - ((x.ops.length:Int) - 1)))):headT x=false:=by
 cases hh:headT x
 ·rfl
 ·simp only [headT,Bool.and_eq_true,decide_eq_true_eq,and_assoc] at hh h
  exact absurd hh h
theorem headT_yes {x:Bat} (h:(0≤x.r∧x.r≤15)∧(1≤x.s∧x.s≤512)∧(1≤x.ops.length∧x.ops.length≤64)∧(1≤x.t∧x.t≤1099511627776 - ((x.ops.length:Int) - 1))):headT x=true:=by
 simp only [headT,Bool.and_eq_true,decide_eq_true_eq,and_assoc] at h ⊢
 exact h
def opOf (l:List Opp) (i:Nat):Opp:=l.getD i Opp.zero
theorem opOf_mem {l:List Opp} {i:Nat} (h:i<l.length):opOf l i ∈ l:=by
 have:opOf l i=l[i]:=by simp [opOf,h]
 rw [this]; exact List.getElem_mem h
theorem all_no {l:List Opp} {f:Opp→Bool} {k:Nat} (hk:k<l.length) (h:f (opOf l k)=false):l.all f=false:=by
 rw [List.all_eq_false]
 exact ⟨_,opOf_mem hk,by rw [h]; simp⟩
theorem all_yes {l:List Opp} {f:Opp→Bool} (h:∀ i,i<l.length→f (opOf l i)=true):l.all f=true:=by
 rw [List.all_eq_true]
 intro s hs
 obtain ⟨i,hi,rfl⟩:=List.mem_iff_getElem.1 hs
 have:=h i hi
 simpa [opOf,hi] using this
def sameL:List Opp→List Opp→Bool
 | [],[]=>true
 | x :: l,y :: m=>sameO x y && sameL l m
 | _,_=>false
theorem sameL_iff:∀ {l m:List Opp},sameL l m=true↔l=m
 | [],[]=>by simp [sameL]
 | [],_ :: _=>by simp [sameL]
 | _ :: _,[]=>by simp [sameL]
 | x :: l,y :: m=>by
  simp only [sameL,Bool.and_eq_true,sameO_iff,List.cons.injEq]
  exact and_congr Iff.rfl (sameL_iff (l:=l) (m:=m))
theorem sameL_refl (l:List Opp):sameL l l=true:=sameL_iff.2 rfl
theorem sameL_len {l m:List Opp} (h:l.length≠m.length):sameL l m=false:=by
 cases hh:sameL l m
 ·rfl
 ·exact absurd (by rw [sameL_iff.1 hh]) h
theorem sameL_no {l m:List Opp} {k:Nat} (h:sameO (opOf l k) (opOf m k)=false):sameL l m=false:=by
 cases hh:sameL l m
 ·rfl
 ·have e:=sameL_iff.1 hh
  subst e
  rw [sameO_refl] at h
  cases h
theorem sameL_yes {l m:List Opp} (hn:l.length=m.length) (h:∀ i,i<m.length→sameO (opOf l i) (opOf m i)=true):sameL l m=true:=by
 rw [sameL_iff]
 apply List.ext_getElem hn
 intro i h1 h2
 have:=sameO_iff.1 (h i h2)
 simpa [opOf,h1,h2] using this
def sameT (x y:Bat):Bool:=x.r == y.r && x.s == y.s && x.t == y.t && sameL x.ops y.ops
theorem sameT_refl (x:Bat):sameT x x=true:=by simp [sameT,sameL_refl]
def stampT (x:Bat) (i:Int):Qm.St:=if 0≤i∧i<(x.ops.length:Int)∧rightT x=true then (x.t+i,x.r) else (0,0)
def endT (x:Bat):Qm.St:=stampT x ((x.ops.length:Int) - 1)
def opsB (l:List Opp):List UInt8:=l.flatMap opB
def batB (x:Bat):List UInt8:=Wm.numB x.r.toNat ++ (Wm.numB x.s.toNat ++ (Wm.numB x.t.toNat ++ (Wm.numB x.ops.length ++ opsB x.ops)))
def putT (x:Bat):List UInt8 × Nat:=if rightT x=true then (batB x,0) else ([],1)
theorem putT_ok {x:Bat} (h:rightT x=true):putT x=(batB x,0):=by unfold putT; rw [if_pos h]
theorem putT_err {x:Bat} (h:rightT x=false):putT x=([],1):=by unfold putT; rw [if_neg (by simp [h])]
theorem opsB_append (l m:List Opp):opsB (l ++ m)=opsB l ++ opsB m:=by simp [opsB]
theorem opsB_one (x:Opp):opsB [x]=opB x:=by simp [opsB]
theorem take_succ_op (l:List Opp) (k:Nat) (h:k<l.length):l.take (k+1)=l.take k ++ [opOf l k]:=by
 rw [List.take_succ_eq_append_getElem h]
 simp [opOf,h]
open Go.RowKit
structure AgT (t:TypeId) (n:Nat):Prop where
 und:∃ d,Tryz.prog.underlying t=some (.struct d)
 size:(Tryz.prog.info? t).map (·.size)=some n
def AgAt (w:World) (b:Nat) (A:Array Value):Prop:=∃ T,w.heap[b]?=some (.cells A T (0,0))
section
variable {w w':World} {b:Nat} {A:Array Value} {t:TypeId} {n:Nat}
theorem AgAt.cell (h:AgAt w b A) (i:Nat):w.cell? ⟨b,i,none⟩=A[i]?:=by
 obtain ⟨T,h⟩:=h
 exact cell_of_row w b i _ T (0,0) h
theorem AgAt.free (h:AgAt w b A) (i:Nat):w.frozen? ⟨b,i,none⟩=false:=by
 obtain ⟨T,h⟩:=h
 exact frozen_of_row w b i _ T h
theorem AgAt.lt (h:AgAt w b A):b<w.heap.size:=by
 obtain ⟨T,h⟩:=h
 exact (Array.getElem?_eq_some_iff.1 h).1
theorem AgAt.block (h:AgAt w b A) (e:w'.heap[b]?=w.heap[b]?):AgAt w' b A:=by
 obtain ⟨T,h⟩:=h
 exact ⟨T,e.trans h⟩
theorem AgAt.below (h:AgAt w b A) {B:Nat} (hb:Below B w w') (hB:b<B):AgAt w' b A:=h.block (hb.block b hB)
theorem AgAt.kept (h:AgAt w b A) (hb:Below w.heap.size w w'):AgAt w' b A:=h.below hb h.lt
theorem AgAt.only {k:Nat} (h:AgAt w b A) (ho:Only k w w') (hne:b≠k):AgAt w' b A:=h.block (ho.block b h.lt (by simpa using hne))
theorem AgAt.new (w:World) (A:Array Value) (T:TypeId):AgAt (w.alloc (.cells A T)) w.heap.size A:=⟨T,heap_alloc_new w _⟩
theorem AgAt.put (h:AgAt w b A) (i:Nat) (v:Value):AgAt (w.setCell ⟨b,i,none⟩ v) b (A.setIfInBounds i v):=by
 obtain ⟨T,h⟩:=h
 exact ⟨T,by rw [Go.Joins.block_setCell h]⟩
theorem AgT.load (V:AgT t n) (hn:A.size=n) (hv:AgAt w b A):(Instr.loadAt t (.pointer (some ⟨b,0,none⟩))).run Tryz.prog w=.ok (.agg A) w:=by
 obtain ⟨T,hv⟩:=hv
 obtain ⟨d,hu⟩:=V.und
 simp only [Instr.loadAt,Instr.sureAddr,Sem.run_bind,Sem.run_pure,Result.andThen_ok]
 exact run_loadVar_row w b T t _ (0,0) _ hv hu rfl (by rw [hn]; exact V.size)
theorem wpList_load_ag (V:AgT t n) {ops:Array Oper} {rest:List Oper} {o:Oper} {a:Act} {Q:Exit→Act→World→Prop} (hgd:Region.wanted o (yielded ops a.tmps)=true) (y:Operand) (ho:o.op=.load t y)
  (b:Nat) (hx:a.eval y=.pointer (some ⟨b,0,none⟩)) (hn:A.size=n) (hv:AgAt w b A)
  (h:wpList Tryz.prog ops Q rest (a.put o.dst (.agg A)) w):wpList Tryz.prog ops Q (o :: rest) a w:=by
 obtain ⟨T,hv⟩:=hv
 obtain ⟨d,hu⟩:=V.und
 rw [wpList,if_pos hgd]
 exact Or.inl (wp_load_row t y ho b hx T _ (0,0) _ hv hu rfl (by rw [hn]; exact V.size) h)
theorem exec_load_ag (V:AgT t n) {c:Act} {o:Oper} {x:Operand} (ho:o.op=.load t x) {b:Nat} (hx:c.eval x=.pointer (some ⟨b,0,none⟩)) (hn:A.size=n) (hv:AgAt w b A) :
  (execOp c.eval o).run Tryz.prog w=.ok (.value (.agg A)) w:=by
 unfold execOp
 simp only [ho,hx,Sem.run_bind,V.load hn hv,Result.andThen_ok,Sem.run_pure]
theorem results_ag (V:AgT t n) {fn:Func} {p:Tmp} (tmps:Array Value) {g:Nat} (h:fn.results=#[.cell p t]) (hn:A.size=n) (hv:AgAt w g A) (hp:tmps.getD p undef=.pointer (some ⟨g,0,none⟩)) :
  (results fn tmps).run Tryz.prog w=.ok (.agg A) w:=by
 obtain ⟨T,hv⟩:=hv
 obtain ⟨d,hu⟩:=V.und
 exact results_cell_row h tmps w g T _ (0,0) _ hp hv hu rfl (by rw [hn]; exact V.size)
theorem wpList_store_ag (V:AgT t n) {ops:Array Oper} {rest:List Oper} {o:Oper} {a:Act} {Q:Exit→Act→World→Prop} (hgd:o.guard=none) (x y:Operand) (ho:o.op=.store t x y)
  (b:Nat) (hx:a.eval x=.pointer (some ⟨b,0,none⟩)) (u:Array Value) (hv:AgAt w b u) (hy:a.eval y=.agg A) (hu:u.size=n) (hn:A.size=n) (h1:A.all (·.oneCell')=true)
  (h:∀ w':World,AgAt w' b A→(∀ k,k≠b→w'.heap[k]?=w.heap[k]?)→w'.heap.size=w.heap.size→(∀ B w0,Below B w0 w→B≤b→Below B w0 w')→wpList Tryz.prog ops Q rest (a.put o.dst undef) w'):wpList Tryz.prog ops Q (o :: rest) a w:=by
 obtain ⟨T,hv⟩:=hv
 refine wpList_plain hgd fun K hK=>?_
 have hr:(storeVar t ⟨b,0,none⟩ (.agg A)).run Tryz.prog w=.ok () (w.setRow b A):=run_storeVar_row w b T t u A hv (by rw [hn]; exact V.size) (by rw [hu,hn]) h1
 have hk:K (a.put o.dst undef) (w.setRow b A):=by
  refine hK _ _ (h _ ⟨T,setRow_heap w b _ _ T _ hv⟩ (fun k hk=>setRow_other w b k _ hk) (by simp) ?_)
  intro B w0 hb hB
  exact hb.trans ⟨rfl,rfl,rfl,by simp,fun k hk=>setRow_other w b k _ (by omega)⟩
 unfold Oper.wp execOp
 simp only [ho,hx,hy,Instr.storeAt,Instr.sureAddr,Sem.run_bind,Sem.run_pure,Result.andThen_ok,hr]
 exact hk
theorem wpList_store_newag (V:AgT t n) {T:TypeId} {ops:Array Oper} {rest:List Oper} {o:Oper} {a:Act} {Q:Exit→Act→World→Prop} (hgd:o.guard=none) (x y:Operand) (ho:o.op=.store t x y)
  (hx:a.eval x=.pointer (some ⟨w.heap.size,0,none⟩)) (u:Array Value) (hy:a.eval y=.agg A) (hu:u.size=n) (hn:A.size=n) (h1:A.all (·.oneCell')=true)
  (h:∀ w':World,AgAt w' w.heap.size A→Below w.heap.size w w'→wpList Tryz.prog ops Q rest (a.put o.dst undef) w'):wpList Tryz.prog ops Q (o :: rest) a (w.alloc (.cells u T)) :=
 wpList_store_ag V hgd x y ho w.heap.size hx u ⟨T,heap_alloc_new w _⟩ hy hu hn h1 fun w' hv _ _ hb=>h w' hv (hb _ _ ((Below.refl _ _).alloc (Nat.le_refl _) _) (Nat.le_refl _))
end
theorem stA_one (a b:Int):(#[Value.int .i64 a,.int .i64 b]:Array Value).all (·.oneCell')=true:=all_oneCell_toArray (cs:=[.int .i64 a,.int .i64 b]) (by
 intro v hv
 simp only [List.mem_cons,List.not_mem_nil,or_false] at hv
 rcases hv with rfl | rfl <;> rfl)
theorem stT:AgT 50 2:=⟨⟨_,Tryz.underlying50⟩,by kernel_rfl⟩
structure En where
 x:Opp
 q:Option Addr
 c:Nat
def enCells (l:List En):List Value:=l.flatMap fun e=>opL e.x e.q e.c
def enOf (l:List En) (i:Nat):En:=l.getD i ⟨Opp.zero,none,0⟩
theorem enCells_length (l:List En):(enCells l).length=l.length * 12:=by
 induction l with
 | nil=>rfl
 | cons a l ih=>simp only [enCells,opL,List.flatMap_cons,List.length_append,List.length_cons,List.length_nil] at ih ⊢; omega
theorem enCells_append (l m:List En):enCells (l ++ m)=enCells l ++ enCells m:=by simp [enCells]
theorem enCells_sing (e:En):enCells [e]=opL e.x e.q e.c:=by simp [enCells]
theorem enCells_one:∀ {l:List En},∀ u ∈ enCells l,u.oneCell'=true:=by
 intro l u hu
 obtain ⟨x,_,hx⟩:=List.mem_flatMap.1 hu
 simp only [opL,List.mem_cons,List.not_mem_nil,or_false] at hx
 rcases hx with rfl | rfl | rfl | rfl | rfl | rfl | rfl | rfl | rfl | rfl | rfl | rfl <;> rfl
theorem opL_length (x:Opp) (q:Option Addr) (c:Nat):(opL x q c).length=12:=rfl
theorem enCells_get (l:List En) (i j:Nat) (h:i<l.length) (hj:j<12):(enCells l)[i * 12+j]?=(opL (enOf l i).x (enOf l i).q (enOf l i).c)[j]?:=by
 induction l generalizing i with
 | nil=>simp at h
 | cons a l ih =>
  have e0:enCells (a :: l)=opL a.x a.q a.c ++ enCells l:=by simp [enCells]
  rw [e0]
  cases i with
  | zero =>
   rw [Nat.zero_mul,Nat.zero_add,List.getElem?_append_left (by rw [opL_length]; exact hj)]
   rfl
  | succ i =>
   rw [List.getElem?_append_right (by rw [opL_length]; omega),opL_length,show (i+1) * 12+j - 12=i * 12+j from by omega,ih i (by simpa using h)]
   rfl
theorem enOf_mem {l:List En} {i:Nat} (h:i<l.length):enOf l i ∈ l:=by
 have:enOf l i=l[i]:=by simp [enOf,h]
 rw [this]; exact List.getElem_mem h
theorem enOf_x {l:List En} {ops:List Opp} (h:l.map (·.x)=ops) (i:Nat):(enOf l i).x=opOf ops i:=by
 subst h
 unfold enOf opOf
 rw [List.getD_eq_getElem?_getD,List.getD_eq_getElem?_getD,List.getElem?_map]
 cases l[i]? <;> rfl
theorem Rd.en {w:World} {b o:Nat} {l:List En} (h:Rd w (some ⟨b,o,none⟩) (enCells l)) (i:Nat) (hi:i<l.length):w.rangeAt b (o+i * 12) (opL (enOf l i).x (enOf l i).q (enOf l i).c):=by
 intro j v hv
 have hj:j<12:=by have:=(List.getElem?_eq_some_iff.1 hv).1; rw [opL_length] at this; exact this
 rw [Nat.add_assoc]
 exact h.cell (by rw [enCells_get l i j hi hj]; exact hv)
theorem wpList_load_en {w:World} {t:TypeId} (V:OT t) {ops:Array Oper} {rest:List Oper} {o:Oper} {a:Act} {Q:Exit→Act→World→Prop} (hgd:o.guard=none) (y:Operand) (ho:o.op=.load t y)
  (b s i:Nat) (hx:a.eval y=.pointer (some ⟨b,s+i * 12,none⟩)) (l:List En) (hrd:Rd w (some ⟨b,s,none⟩) (enCells l)) (hi:i<l.length)
  (h:wpList Tryz.prog ops Q rest (a.put o.dst (.agg (opA (enOf l i).x (enOf l i).q (enOf l i).c))) w):wpList Tryz.prog ops Q (o :: rest) a w:=by
 obtain ⟨d,hu⟩:=V.und
 exact wpList_load_mid hgd t y ho b (s+i * 12) hx (opL (enOf l i).x (enOf l i).q (enOf l i).c) _ (hrd.en i hi) hu rfl V.size h
theorem exec_load_en {w:World} {t:TypeId} (V:OT t) {c:Act} {o:Oper} {x:Operand} (ho:o.op=.load t x) {b s i:Nat} (hx:c.eval x=.pointer (some ⟨b,s+i * 12,none⟩)) (l:List En) (hrd:Rd w (some ⟨b,s,none⟩) (enCells l)) (hi:i<l.length) :
  (execOp c.eval o).run Tryz.prog w=.ok (.value (.agg (opA (enOf l i).x (enOf l i).q (enOf l i).c))) w:=by
 obtain ⟨d,hu⟩:=V.und
 unfold execOp
 simp only [ho,hx,Sem.run_bind,run_loadAt_mid w b (s+i * 12) t (opL (enOf l i).x (enOf l i).q (enOf l i).c) _ (hrd.en i hi) hu rfl V.size,Result.andThen_ok,Sem.run_pure]
 rfl
structure Os (w:World) (p:Option Addr) (c:Nat) (l:List En) (ops:List Opp):Prop where
 map:l.map (·.x)=ops
 rd:Rd w p (enCells l)
 pa:∀ e,e ∈ l→Pa w e.x e.q e.c
 nil:p=none→c=0
 cap:ops.length≤c
theorem Os.len {w:World} {p:Option Addr} {c:Nat} {l:List En} {ops:List Opp} (h:Os w p c l ops):l.length=ops.length:=by rw [← h.map,List.length_map]
theorem Os.kept {w w':World} {p:Option Addr} {c:Nat} {l:List En} {ops:List Opp} (h:Os w p c l ops) (hb:Below w.heap.size w w'):Os w' p c l ops:=⟨h.map,h.rd.below hb,fun e he=>(h.pa e he).kept hb,h.nil,h.cap⟩
theorem Os.x {w:World} {p:Option Addr} {c:Nat} {l:List En} {ops:List Opp} (h:Os w p c l ops) (i:Nat):(enOf l i).x=opOf ops i:=enOf_x h.map i
theorem Os.paOf {w:World} {p:Option Addr} {c:Nat} {l:List En} {ops:List Opp} (h:Os w p c l ops) {i:Nat} (hi:i<ops.length):Pa w (opOf ops i) (enOf l i).q (enOf l i).c:=by
 rw [← h.x i]
 exact h.pa _ (enOf_mem (by rw [h.len]; exact hi))
theorem Os.empty (w:World):Os w none 0 [] []:=⟨rfl,Rd.nil _ _,fun _ h=>(by cases h),fun _=>rfl,Nat.le_refl _⟩
def btA (x:Bat) (p:Option Addr) (c:Nat):Array Value:=#[.int .i64 x.r,.int .i64 x.s,.int .i64 x.t,.slice p x.ops.length c]
theorem btA_one (x:Bat) (p:Option Addr) (c:Nat):(btA x p c).all (·.oneCell')=true:=all_oneCell_toArray (cs:=[.int .i64 x.r,.int .i64 x.s,.int .i64 x.t,.slice p x.ops.length c]) (by
 intro v hv
 simp only [List.mem_cons,List.not_mem_nil,or_false] at hv
 rcases hv with rfl | rfl | rfl | rfl <;> rfl)
abbrev BtAt (w:World) (b:Nat) (x:Bat) (p:Option Addr) (c:Nat):Prop:=AgAt w b (btA x p c)
theorem BtAt.cells {w:World} {b:Nat} {x:Bat} {p:Option Addr} {c:Nat} (h:BtAt w b x p c) :
  w.cell? ⟨b,0,none⟩=some (.int .i64 x.r)∧w.cell? ⟨b,1,none⟩=some (.int .i64 x.s)∧w.cell? ⟨b,2,none⟩=some (.int .i64 x.t)∧w.cell? ⟨b,3,none⟩=some (.slice p x.ops.length c) :=
 ⟨by rw [AgAt.cell h 0]; rfl,by rw [AgAt.cell h 1]; rfl,by rw [AgAt.cell h 2]; rfl,by rw [AgAt.cell h 3]; rfl⟩
theorem btP:AgT 39 4:=⟨⟨_,Tryz.underlying39⟩,by kernel_rfl⟩
theorem btR:AgT 43 4:=⟨⟨_,Tryz.underlying43⟩,by kernel_rfl⟩
def Bops (w:World) (x:Bat) (p:Option Addr) (c:Nat):Prop:=∃ l,Os w p c l x.ops
theorem Bops.kept {w w':World} {x:Bat} {p:Option Addr} {c:Nat} (h:Bops w x p c) (hb:Below w.heap.size w w'):Bops w' x p c:=by
 obtain ⟨l,h⟩:=h
 exact ⟨l,h.kept hb⟩
theorem Bops.zero (w:World):Bops w Bat.zero none 0:=⟨[],Os.empty w⟩
structure Szs (l:List Opp):Prop where
 each:∀ x,x ∈ l→Sz x
 len:l.length≤10000
theorem Szs.of {l:List Opp} (h:Szs l) {i:Nat} (hi:i<l.length):Sz (opOf l i):=h.each _ (opOf_mem hi)
open Go.RowKit
theorem wpList_store_newop' {t:TypeId} (V:OT t) {ops:Array Oper} {rest:List Oper} {o:Oper} {a:Act} {w:World} {T:TypeId} {Q:Exit→Act→World→Prop} (hgd:o.guard=none) (x y:Operand) (ho:o.op=.store t x y)
  (hx:a.eval x=.pointer (some ⟨w.heap.size,0,none⟩)) (A:Array Value) (hA:A.size=12) (v:Opp) (q:Option Addr) (c:Nat) (hy:a.eval y=.agg (opA v q c))
  (h:∀ w':World,OpAt w' w.heap.size v q c→Below w.heap.size w w'→wpList Tryz.prog ops Q rest (a.put o.dst undef) w'):wpList Tryz.prog ops Q (o :: rest) a (w.alloc (.cells A T)) :=
 wpList_store_op V hgd x y ho w.heap.size hx T A (heap_alloc_new w _) hA v q c hy fun w' hv _ _ hb=>h w' hv (hb _ _ ((Below.refl _ _).alloc (Nat.le_refl _) _) (Nat.le_refl _))
theorem allRight_any (p:Option Addr) (c:Nat) (l:List En) (ops:List Opp) (w:World) (hs:Szs ops) (h:Os w p c l ops) :
  Calls Tryz.prog 64 #[.slice p ops.length c] w fun e w'=>e=.returned (.bool (ops.all rightO))∧Below w.heap.size w w':=by
 have HOS:=Hi h
 have HSZ:=Hi hs
 have hlen:=hs.len
 rcases Nat.eq_zero_or_pos ops.length with h0 | h0
 ·have HR:=Hi (show ops.all rightO=true by rw [List.eq_nil_of_length_eq_zero h0]; rfl)
  clear h hs
  generalize ops.length=n at *
  subst h0
  go_enter Tryz.func64,Tryz.ntmps64
  go_wp2
  go_loop [7] (fun i=>i=.int .i64 0) (fun _=>0)
  case atStart=>rfl
  case round =>
   subst hrel
   go_wp2
   go_ret
   exact ⟨ret_b HR.out.symm,Below.refl _ _⟩
 ·obtain ⟨b,o,rfl,hb⟩:=h.rd.addr (by rw [enCells_length,h.len]; omega)
  clear h hs
  go_enter Tryz.func64,Tryz.ntmps64
  go_wp2
  go_loopw [7] (fun i wr=>∃ k:Nat,k≤ops.length∧i=.int .i64 (k:Int)∧(∀ j,j<k→rightO (opOf ops j)=true)∧Below w.heap.size w wr) (fun i _=>ops.length - (intOf i).toNat)
  case atStart=>exact ⟨0,Nat.zero_le _,rfl,fun j hj=>absurd hj (Nat.not_lt_zero _),Below.refl _ _⟩
  case round =>
   obtain ⟨k,hk,rfl,ho,hbw⟩:=hrel
   have HO:=Hi ho
   have HBW:=Hi hbw
   clear ho hbw
   by_cases hlt:k<ops.length
   ·have HRD:=Hi (HOS.out.kept HBW.out)
    have HX:=Hi (HOS.out.x k)
    have HPA:=Hi (HRD.out.paOf hlt)
    have HN:=Hi (fun (W:World) (hp:Pa W (opOf ops k) (enOf l k).q (enOf l k).c)=>oright_any (opOf ops k) (enOf l k).q (enOf l k).c W (HSZ.out.of hlt) hp)
    have HNO:=Hi (fun h=>all_no (l:=ops) (f:=rightO) hlt h)
    have HST:=Hi (show rightO (opOf ops k)=true→∀ j,j<k+1→rightO (opOf ops j)=true from fun he j hj=>by
     rcases Nat.lt_or_ge j k with e | e
     ·exact HO.out j e
     ·obtain rfl:j=k:=by omega
      exact he)
    have hll:=HRD.out.len
    go_wp2_with (first | (refine wpList_load_en otP rfl _ rfl _ _ _ rfl _ HRD.out.rd (by omega) ?_; rw [HX.out]) | (refine wpList_store_newop' otP rfl _ _ rfl rfl _ rfl _ _ _ rfl ?_; intro wz hvz hbz) | (refine wpList_load_op otP rfl _ rfl _ rfl _ _ _ (by assumption) ?_))
    refine (HN.out _ (HPA.out.kept hbz)).mono ?_
    have HB3:=Hi (fun w1 (hb1:Below wz.heap.size wz w1)=>(HBW.out.trans (hbz.mono HBW.out.size)).trans (hb1.mono (Nat.le_trans HBW.out.size hbz.size)))
    clear hvz hbz
    cases hr:rightO (opOf ops k) with
    | false =>
     have HR:=Hi (HNO.out hr)
     rintro e w1 ⟨rfl,hb1⟩
     have HB4:=Hi (HB3.out _ hb1)
     clear hb1
     go_wp2
     go_ret
     exact ⟨ret_b HR.out.symm,HB4.out⟩
    | true =>
     have HR:=Hi (HST.out hr)
     rintro e w1 ⟨rfl,hb1⟩
     have HB4:=Hi (HB3.out _ hb1)
     clear hb1
     go_wp2
     go_roundw
     case rel=>exact ⟨k+1,by omega,by go_num,HR.out,HB4.out⟩
     case measure=>simp [intOf]; omega
   ·obtain rfl:k=ops.length:=by omega
    have HR:=Hi (all_yes (l:=ops) (f:=rightO) HO.out)
    go_wp2
    go_ret
    exact ⟨ret_b HR.out.symm,HBW.out⟩
theorem bright_any (x:Bat) (p:Option Addr) (c:Nat) (w:World) (hs:Szs x.ops) (h:Bops w x p c):Calls Tryz.prog 30 #[.agg (btA x p c)] w fun e w'=>e=.returned (.bool (rightT x))∧Below w.heap.size w w':=by
 obtain ⟨l,h⟩:=h
 have HX:=Hi (AgAt.new w (btA x p c) 39)
 have HB:=Hi ((Below.refl w.heap.size w).alloc (Nat.le_refl _) (.cells (btA x p c) 39))
 have HOS:=Hi (h.kept ((Below.refl w.heap.size w).alloc (Nat.le_refl _) (.cells (btA x p c) 39)))
 have HA:=Hi (fun W (hw:Os W p c l x.ops)=>allRight_any p c l x.ops W hs hw)
 have hlen:=hs.len
 obtain ⟨x0,x1,x2,x3⟩:=BtAt.cells HX.out
 have HHN:=Hi (fun hn=>headT_no (x:=x) hn)
 have HHY:=Hi (fun hn=>headT_yes (x:=x) hn)
 have HRH:=Hi (fun hn=>rightT_head (x:=x) hn)
 have HRN:=Hi (fun hn=>rightT_nohead (x:=x) hn)
 clear h hs
 by_cases h0:0≤x.r
 rotate_left
 ·have d0:decide ((0:Int)≤x.r)=false:=decide_eq_false (by omega)
  have HR:=Hi (HRN.out (HHN.out (by omega)))
  generalize x.ops.length=n at *
  go_enter Tryz.func30,Tryz.ntmps30
  go_wp2
  go_ret
  exact ⟨ret_b HR.out.symm,HB.out⟩
 have d0:decide ((0:Int)≤x.r)=true:=decide_eq_true (by omega)
 by_cases h1:x.r≤15
 rotate_left
 ·have d1:decide (x.r≤15)=false:=decide_eq_false (by omega)
  have HR:=Hi (HRN.out (HHN.out (by omega)))
  generalize x.ops.length=n at *
  go_enter Tryz.func30,Tryz.ntmps30
  go_wp2
  go_ret
  exact ⟨ret_b HR.out.symm,HB.out⟩
 have d1:decide (x.r≤15)=true:=decide_eq_true (by omega)
 by_cases h2:1≤x.s
 rotate_left
 ·have d2:decide ((1:Int)≤x.s)=false:=decide_eq_false (by omega)
  have HR:=Hi (HRN.out (HHN.out (by omega)))
  generalize x.ops.length=n at *
  go_enter Tryz.func30,Tryz.ntmps30
  go_wp2
  go_ret
  exact ⟨ret_b HR.out.symm,HB.out⟩
 have d2:decide ((1:Int)≤x.s)=true:=decide_eq_true (by omega)
 by_cases h3:x.s≤512
 rotate_left
 ·have d3:decide (x.s≤512)=false:=decide_eq_false (by omega)
  have HR:=Hi (HRN.out (HHN.out (by omega)))
  generalize x.ops.length=n at *
  go_enter Tryz.func30,Tryz.ntmps30
  go_wp2
  go_ret
  exact ⟨ret_b HR.out.symm,HB.out⟩
 have d3:decide (x.s≤512)=true:=decide_eq_true (by omega)
 by_cases h4:1≤x.ops.length
 rotate_left
 ·have d4:decide ((1:Int)≤(x.ops.length:Int))=false:=decide_eq_false (by omega)
  have HR:=Hi (HRN.out (HHN.out (by omega)))
  generalize x.ops.length=n at *
  go_enter Tryz.func30,Tryz.ntmps30
  go_wp2
  go_ret
  exact ⟨ret_b HR.out.symm,HB.out⟩
 have d4:decide ((1:Int)≤(x.ops.length:Int))=true:=decide_eq_true (by omega)
 by_cases h5:x.ops.length≤64
 rotate_left
 ·have d5:decide ((x.ops.length:Int)≤64)=false:=decide_eq_false (by omega)
  have HR:=Hi (HRN.out (HHN.out (by omega)))
  generalize x.ops.length=n at *
  go_enter Tryz.func30,Tryz.ntmps30
  go_wp2
  go_ret
  exact ⟨ret_b HR.out.symm,HB.out⟩
 have d5:decide ((x.ops.length:Int)≤64)=true:=decide_eq_true (by omega)
 by_cases h6:1≤x.t
 rotate_left
 ·have d6:decide ((1:Int)≤x.t)=false:=decide_eq_false (by omega)
  have HR:=Hi (HRN.out (HHN.out (by omega)))
  generalize x.ops.length=n at *
  go_enter Tryz.func30,Tryz.ntmps30
  go_wp2
  go_ret
  exact ⟨ret_b HR.out.symm,HB.out⟩
 have d6:decide ((1:Int)≤x.t)=true:=decide_eq_true (by omega)
 by_cases h7:x.t≤1099511627776 - ((x.ops.length:Int) - 1)
 rotate_left
 ·have d7:decide (x.t≤1099511627776 - ((x.ops.length:Int) - 1))=false:=decide_eq_false (by omega)
  have HR:=Hi (HRN.out (HHN.out (by omega)))
  generalize x.ops.length=n at *
  go_enter Tryz.func30,Tryz.ntmps30
  go_wp2
  go_ret
  exact ⟨ret_b HR.out.symm,HB.out⟩
 have d7:decide (x.t≤1099511627776 - ((x.ops.length:Int) - 1))=true:=decide_eq_true (by omega)
 have HR:=Hi (HRH.out (HHY.out (by omega)))
 go_enter Tryz.func30,Tryz.ntmps30
 go_wp2_with fail
 refine (HA.out _ HOS.out).mono ?_
 rintro e w1 ⟨rfl,hb1⟩
 have HB2:=Hi (HB.out.trans (hb1.mono HB.out.size))
 clear hb1
 go_wp2
 go_ret
 exact ⟨ret_b HR.out.symm,HB2.out⟩
open Go.RowKit
theorem two_bt (w:World) (x y:Bat) (p q:Option Addr) (c d:Nat) (T:TypeId) :
  Hid (BtAt ((w.alloc (.cells (btA x p c) T)).alloc (.cells (btA y q d) T)) w.heap.size x p c)∧Hid (BtAt ((w.alloc (.cells (btA x p c) T)).alloc (.cells (btA y q d) T)) (w.heap.size+1) y q d)∧Hid (Below w.heap.size w ((w.alloc (.cells (btA x p c) T)).alloc (.cells (btA y q d) T))):=by
 have h1:∀ (w:World) (o:Obj),Below w.heap.size w (w.alloc o):=fun w o=>(Below.refl _ _).alloc (Nat.le_refl _) _
 have e1:(w.alloc (.cells (btA x p c) T)).heap.size=w.heap.size+1:=by simp
 have k:=AgAt.new (w.alloc (.cells (btA x p c) T)) (btA y q d) T
 rw [e1] at k
 exact ⟨Hi ((AgAt.new w _ _).kept (h1 _ _)),Hi k,Hi ((h1 _ _).trans ((h1 _ _).mono (by simp)))⟩
open Go.RowKit
theorem stampT_no {x:Bat} {i:Int} (h:¬ (0≤i∧i<(x.ops.length:Int)∧rightT x=true)):stampT x i=(0,0):=by unfold stampT; rw [if_neg h]
theorem stampT_yes {x:Bat} {i:Int} (h:0≤i∧i<(x.ops.length:Int)∧rightT x=true):stampT x i=(x.t+i,x.r):=by unfold stampT; rw [if_pos h]
theorem bstamp_any (x:Bat) (p:Option Addr) (c:Nat) (i:Int) (w:World) (hs:Szs x.ops) (h:Bops w x p c) (hi:-9223372036854775808≤i∧i≤9223372036854775807) :
  Calls Tryz.prog 80 #[.agg (btA x p c),.int .i64 i] w fun e w'=>e=.returned (.agg #[.int .i64 (stampT x i).1,.int .i64 (stampT x i).2])∧Below w.heap.size w w':=by
 have hlen:=hs.len
 have h1:∀ (w:World) (o:Obj),Below w.heap.size w (w.alloc o):=fun w o=>(Below.refl _ _).alloc (Nat.le_refl _) _
 have HX:=Hi (show BtAt ((w.alloc (.cells (btA x p c) 39)).alloc (.cells #[.int .i64 0,.int .i64 0] 50)) w.heap.size x p c from (AgAt.new w (btA x p c) 39).kept (h1 _ _))
 have HB:=Hi (show Below w.heap.size w ((w.alloc (.cells (btA x p c) 39)).alloc (.cells #[.int .i64 0,.int .i64 0] 50)) from (h1 _ _).trans ((h1 _ _).mono (by simp)))
 have HRI:=Hi (fun W (hw:Below w.heap.size w W)=>bright_any x p c W hs (h.kept hw))
 have HNO:=Hi (fun hh=>stampT_no (x:=x) (i:=i) hh)
 have HYE:=Hi (fun hh=>stampT_yes (x:=x) (i:=i) hh)
 obtain ⟨x0,x1,x2,x3⟩:=BtAt.cells HX.out
 have hx:=HX.out
 clear h hs h1
 by_cases g1:i<0
 ·have d1:decide (i<0)=true:=decide_eq_true g1
  have HR:=Hi (HNO.out (by omega))
  go_enter Tryz.func80,Tryz.ntmps80
  go_wp2
  refine bodyPost_ret (v:=.agg #[.int .i64 0,.int .i64 0]) (by simp [results,Tryz.results80,go_sem]) rfl ?_
  rw [HR.out]
  exact ⟨rfl,HB.out⟩
 have d1:decide (i<0)=false:=decide_eq_false g1
 by_cases g2:(x.ops.length:Int)≤i
 ·have d2:decide ((x.ops.length:Int)≤i)=true:=decide_eq_true g2
  have HR:=Hi (HNO.out (by omega))
  generalize x.ops.length=n at *
  go_enter Tryz.func80,Tryz.ntmps80
  go_wp2
  refine bodyPost_ret (v:=.agg #[.int .i64 0,.int .i64 0]) (by simp [results,Tryz.results80,go_sem]) rfl ?_
  rw [HR.out]
  exact ⟨rfl,HB.out⟩
 have d2:decide ((x.ops.length:Int)≤i)=false:=decide_eq_false g2
 cases hr:rightT x with
 | false =>
  have HR:=Hi (HNO.out (by rw [hr]; simp))
  rw [hr] at HRI
  generalize x.ops.length=n at *
  go_enter Tryz.func80,Tryz.ntmps80
  go_wp2_with (refine wpList_load_ag btP (by kernel_rfl) _ rfl _ rfl (A:=btA x p c) rfl (by assumption) ?_)
  refine (HRI.out _ HB.out).mono ?_
  rintro e w1 ⟨rfl,hb1⟩
  have HB2:=Hi (HB.out.trans (hb1.mono HB.out.size))
  have HZ:=Hi (show AgAt w1 (w.heap.size+1) #[.int .i64 0,.int .i64 0] from AgAt.kept (by have:=AgAt.new (w.alloc (.cells (btA x p c) 39)) #[.int .i64 0,.int .i64 0] 50; simpa using this) hb1)
  clear hb1
  go_wp2_with (refine wpList_store_ag stT rfl _ _ rfl _ rfl _ HZ.out rfl rfl rfl (stA_one _ _) ?_; intro wz hvz hko hsz hbn)
  refine bodyPost_ret (results_ag stT _ rfl rfl hvz rfl) rfl ?_
  rw [HR.out]
  exact ⟨rfl,hbn _ _ HB2.out (Nat.le_succ _)⟩
 | true =>
  have HR:=Hi (HYE.out ⟨by omega,by omega,hr⟩)
  have HF:=Hi (rightT_iff.1 hr)
  rw [hr] at HRI
  generalize x.ops.length=n at *
  go_enter Tryz.func80,Tryz.ntmps80
  go_wp2_with (refine wpList_load_ag btP (by kernel_rfl) _ rfl _ rfl (A:=btA x p c) rfl (by assumption) ?_)
  refine (HRI.out _ HB.out).mono ?_
  rintro e w1 ⟨rfl,hb1⟩
  have HB2:=Hi (HB.out.trans (hb1.mono HB.out.size))
  have hwr:IntKind.i64.wrap (x.t+i)=x.t+i:=by rw [IntKind.wrap_i64]; have:=HF.out.2.2.2.1; have:=HF.out.2.2.1; omega
  obtain ⟨x0,x1,x2,x3⟩:=BtAt.cells (AgAt.kept HX.out hb1)
  have HZ:=Hi (show AgAt w1 (w.heap.size+1) #[.int .i64 0,.int .i64 0] from AgAt.kept (by have:=AgAt.new (w.alloc (.cells (btA x p c) 39)) #[.int .i64 0,.int .i64 0] 50; simpa using this) hb1)
  clear hb1
  go_wp2_with (refine wpList_store_ag stT rfl _ _ rfl _ rfl _ HZ.out rfl rfl rfl (stA_one _ _) ?_; intro wz hvz hko hsz hbn)
  refine bodyPost_ret (results_ag stT _ rfl rfl hvz rfl) rfl ?_
  rw [HR.out]
  exact ⟨rfl,hbn _ _ HB2.out (Nat.le_succ _)⟩
theorem bend_any (x:Bat) (p:Option Addr) (c:Nat) (w:World) (hs:Szs x.ops) (h:Bops w x p c) :
  Calls Tryz.prog 77 #[.agg (btA x p c)] w fun e w'=>e=.returned (.agg #[.int .i64 (endT x).1,.int .i64 (endT x).2])∧Below w.heap.size w w':=by
 have hlen:=hs.len
 have h1:∀ (w:World) (o:Obj),Below w.heap.size w (w.alloc o):=fun w o=>(Below.refl _ _).alloc (Nat.le_refl _) _
 have HX:=Hi (show BtAt ((w.alloc (.cells (btA x p c) 39)).alloc (.cells #[.int .i64 0,.int .i64 0] 50)) w.heap.size x p c from (AgAt.new w (btA x p c) 39).kept (h1 _ _))
 have HB:=Hi (show Below w.heap.size w ((w.alloc (.cells (btA x p c) 39)).alloc (.cells #[.int .i64 0,.int .i64 0] 50)) from (h1 _ _).trans ((h1 _ _).mono (by simp)))
 have HZ0:=Hi (show AgAt ((w.alloc (.cells (btA x p c) 39)).alloc (.cells #[.int .i64 0,.int .i64 0] 50)) (w.heap.size+1) #[.int .i64 0,.int .i64 0] from by
  have:=AgAt.new (w.alloc (.cells (btA x p c) 39)) #[.int .i64 0,.int .i64 0] 50
  simpa using this)
 have HST:=Hi (fun W (hw:Below w.heap.size w W)=>bstamp_any x p c ((x.ops.length:Int) - 1) W hs (h.kept hw) (by omega))
 have hwr:IntKind.i64.wrap ((x.ops.length:Int) - 1)=(x.ops.length:Int) - 1:=by rw [IntKind.wrap_i64]; omega
 have HE:=Hi (show endT x=stampT x ((x.ops.length:Int) - 1) from rfl)
 obtain ⟨x0,x1,x2,x3⟩:=BtAt.cells HX.out
 have hx:=HX.out
 clear h hs h1
 go_enter Tryz.func77,Tryz.ntmps77
 go_wp2_with (refine wpList_load_ag btP (by kernel_rfl) _ rfl _ rfl (A:=btA x p c) rfl (by assumption) ?_)
 refine (HST.out _ HB.out).mono ?_
 rintro e w1 ⟨rfl,hb1⟩
 have HB2:=Hi (HB.out.trans (hb1.mono HB.out.size))
 have HZ:=Hi (HZ0.out.kept hb1)
 clear hb1
 go_wp2_with (refine wpList_store_ag stT rfl _ _ rfl _ rfl _ HZ.out rfl rfl rfl (stA_one _ _) ?_; intro wz hvz hko hsz hbn)
 refine bodyPost_ret (results_ag stT _ rfl rfl hvz rfl) rfl ?_
 rw [HE.out]
 exact ⟨rfl,hbn _ _ HB2.out (Nat.le_succ _)⟩
end Go.Proofs.YtfgnmnkihbgjnaaGreat
