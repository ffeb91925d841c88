/-
  OPS, PLAINLY: what a kind names, which ops may be, when two are the same, their bytes, and how they are read.
  No conditions.
  WHAT AN OP THAT MAY BE IS, kind by kind; it is read as it was written, and what is read was written so.
  No conditions.
  AN OP IS READ AS IT WAS WRITTEN; what is read was written so.
  No conditions.
  BATCHES, PLAINLY: which may be, when two are the same, their stamps, their bytes, how they are read, framed or not.
  No conditions.
  OPS IN MEMORY: twelve cells in a block of their own; loads, stores and answers of whole ops; what a function's type tables say.
  No conditions.
  Node, Place, digit, the error's number.
  No conditions.
  May a Path be; two Paths held against each other.
  No conditions but sizes.
  fit: may each part that is named be, of each kind.
  No conditions but sizes.
-/
import Derived.Test.YthfhefdfehlbkaaGreatSh
import Derived.Test.YthfhefdfehlbkaaGreatK02
import Derived.Test.YthfhefdfehlbkaaGreatK1B
import Derived.Test.YthfhefdfehlbkaaGreatK01
import Derived.Deep.MidRow
import Derived.Deep.RegionHeld
import Derived.Laws.Tables
set_option maxRecDepth 100000
set_option maxHeartbeats 2000000
namespace Go.Proofs.YthfhefdfehlbkaaGreat
open Go.RowKit
structure Opp where
 k:Int
 nt:Int
 nr:Int
 rt:Int
 rr:Int
 key:ByteArray
 path:List Qm.St
 p:Int
 vk:Int
 vn:Int
 vt:ByteArray
 on:Bool
def Opp.zero:Opp:=⟨0,0,0,0,0,⟨#[]⟩,[],0,0,0,⟨#[]⟩,false⟩
structure Prt where
 node:Bool
 spot:Bool
 master:Bool
 path:Bool
 value:Bool
 on:Bool
def prt (k:Int):Prt :=
 if k=1 then ⟨false,true,false,false,false,false⟩ else if k=2 then ⟨true,true,false,false,false,false⟩
 else if k=3 then ⟨true,false,false,false,true,false⟩ else if k=4 then ⟨true,false,false,false,false,true⟩
 else if k=5 then ⟨true,false,true,false,false,false⟩ else if k=6 then ⟨true,false,false,true,true,false⟩
 else ⟨false,false,false,false,false,false⟩
theorem prt_none {k:Int} (h1:k≠1) (h2:k≠2) (h3:k≠3) (h4:k≠4) (h5:k≠5) (h6:k≠6):prt k=⟨false,false,false,false,false,false⟩:=by
 unfold prt; rw [if_neg h1,if_neg h2,if_neg h3,if_neg h4,if_neg h5,if_neg h6]
def okNode (t r:Int):Bool:=rightB t r && decide (1≤t)
def isZ (t r:Int):Bool:=t == 0 && r == 0
def isT (t r:Int):Bool:=t == 0 && r == 1
def okPlace (t r:Int):Bool:=okNode t r || isZ t r || isT t r
def okPath (l:List Qm.St):Bool:=decide (1≤l.length) && decide (l.length≤8) && l.all fun s=>okNode s.1 s.2
def isV (k n:Int) (t:ByteArray):Bool:=k == 0 && n == 0 && decide (t=⟨#[]⟩)
def fitO (p:Prt) (x:Opp):Bool :=
 (!p.node || okNode x.nt x.nr) && (!p.spot || (okPlace x.rt x.rr && Km.rightB x.key.data.toList)) && (!p.master || okNode x.rt x.rr || isZ x.rt x.rr) &&
 (!p.path || okPath x.path) && (!p.value || right8V x.p x.vk x.vn x.vt.data.toList)
def aloneO (p:Prt) (x:Opp):Bool :=
 (p.node || isZ x.nt x.nr) && (p.spot || p.master || isZ x.rt x.rr) && (p.spot || decide (x.key=⟨#[]⟩)) && (p.path || x.path.length == 0) &&
 (p.value || (x.p == 0 && isV x.vk x.vn x.vt)) && (p.on || !x.on)
def rightO (x:Opp):Bool:=decide (1≤x.k∧x.k≤6) && fitO (prt x.k) x && aloneO (prt x.k) x
open Go.RowKit
open Go.RowKit
open Go.RowKit
structure Bat where
 r:Int
 s:Int
 t:Int
 ops:List Opp
def Bat.zero:Bat:=⟨0,0,0,[]⟩
def rightT (x:Bat):Bool :=
 decide (0≤x.r∧x.r≤15) && decide (1≤x.s∧x.s≤512) && decide (1≤x.ops.length∧x.ops.length≤64) && decide (1≤x.t∧x.t≤1099511627776 - ((x.ops.length:Int) - 1)) && x.ops.all rightO
def headT (x:Bat):Bool:=decide (0≤x.r∧x.r≤15) && decide (1≤x.s∧x.s≤512) && decide (1≤x.ops.length∧x.ops.length≤64) && decide (1≤x.t∧x.t≤1099511627776 - ((x.ops.length:Int) - 1))
theorem rightT_iff {x:Bat}:rightT x=true↔(0≤x.r∧x.r≤15)∧(1≤x.s∧x.s≤512)∧(1≤x.ops.length∧x.ops.length≤64)∧(1≤x.t∧x.t≤1099511627776 - ((x.ops.length:Int) - 1))∧∀ y ∈ x.ops,rightO y=true:=by
 simp only [rightT,Bool.and_eq_true,decide_eq_true_eq,List.all_eq_true,and_assoc]
theorem rightT_head {x:Bat} (h:headT x=true):rightT x=x.ops.all rightO:=by
 unfold rightT; unfold headT at h; rw [h,Bool.true_and]
theorem rightT_nohead {x:Bat} (h:headT x=false):rightT x=false:=by
 unfold rightT; unfold headT at h; rw [h,Bool.false_and]
theorem headT_no {x:Bat} (h:¬ ((0≤x.r∧x.r≤15)∧(1≤x.s∧x.s≤512)∧(1≤x.ops.length∧x.ops.length≤64)∧(1≤x.t∧x.t≤1099511627776 - ((x.ops.length:Int) - 1)))):headT x=false:=by
 cases hh:headT x
 ·rfl
 ·simp only [headT,Bool.and_eq_true,decide_eq_true_eq,and_assoc] at hh h
  exact absurd hh h
theorem headT_yes {x:Bat} (h:(0≤x.r∧x.r≤15)∧(1≤x.s∧x.s≤512)∧(1≤x.ops.length∧x.ops.length≤64)∧(1≤x.t∧x.t≤1099511627776 - ((x.ops.length:Int) - 1))):headT x=true:=by
 simp only [headT,Bool.and_eq_true,decide_eq_true_eq,and_assoc] at h ⊢
 exact h
def opOf (l:List Opp) (i:Nat):Opp:=l.getD i Opp.zero
theorem opOf_mem {l:List Opp} {i:Nat} (h:i<l.length):opOf l i ∈ l:=by
 have:opOf l i=l[i]:=by simp [opOf,h]
 rw [this]; exact List.getElem_mem h
theorem all_no {l:List Opp} {f:Opp→Bool} {k:Nat} (hk:k<l.length) (h:f (opOf l k)=false):l.all f=false:=by
 rw [List.all_eq_false]
 exact ⟨_,opOf_mem hk,by rw [h]; simp⟩
theorem all_yes {l:List Opp} {f:Opp→Bool} (h:∀ i,i<l.length→f (opOf l i)=true):l.all f=true:=by
 rw [List.all_eq_true]
 intro s hs
 obtain ⟨i,hi,rfl⟩:=List.mem_iff_getElem.1 hs
 have:=h i hi
 simpa [opOf,hi] using this
def stampT (x:Bat) (i:Int):Qm.St:=if 0≤i∧i<(x.ops.length:Int)∧rightT x=true then (x.t+i,x.r) else (0,0)
def endT (x:Bat):Qm.St:=stampT x ((x.ops.length:Int) - 1)
theorem take_succ_op (l:List Opp) (k:Nat) (h:k<l.length):l.take (k+1)=l.take k ++ [opOf l k]:=by
 rw [List.take_succ_eq_append_getElem h]
 simp [opOf,h]
open Go.RowKit
def opL (x:Opp) (q:Option Addr) (c:Nat):List Value:=[.int .i64 x.k,.int .i64 x.nt,.int .i64 x.nr,.int .i64 x.rt,.int .i64 x.rr,.string x.key,.slice q x.path.length c,.int .i64 x.p,.int .i64 x.vk,.int .i64 x.vn,.string x.vt,.bool x.on]
def opA (x:Opp) (q:Option Addr) (c:Nat):Array Value:=(opL x q c).toArray
theorem opA_size (x:Opp) (q:Option Addr) (c:Nat):(opA x q c).size=12:=rfl
theorem opA_one (x:Opp) (q:Option Addr) (c:Nat):(opA x q c).all (·.oneCell')=true:=all_oneCell_toArray (by
 intro v hv
 simp only [opL,List.mem_cons,List.not_mem_nil,or_false] at hv
 rcases hv with rfl | rfl | rfl | rfl | rfl | rfl | rfl | rfl | rfl | rfl | rfl | rfl <;> rfl)
def OpAt (w:World) (b:Nat) (x:Opp) (q:Option Addr) (c:Nat):Prop:=∃ T,w.heap[b]?=some (.cells (opA x q c) T (0,0))
structure Pa (w:World) (x:Opp) (q:Option Addr) (c:Nat):Prop where
 rd:Rd w q (stCells x.path)
 nil:q=none→c=0
 cap:x.path.length≤c
theorem Pa.kept {w w':World} {x:Opp} {q:Option Addr} {c:Nat} (h:Pa w x q c) (hb:Below w.heap.size w w'):Pa w' x q c:=⟨h.rd.below hb,h.nil,h.cap⟩
theorem Pa.none (w:World) (x:Opp) (h:x.path=[]):Pa w x none 0:=⟨by rw [h]; exact Rd.nil _ _,fun _=>rfl,by rw [h]; exact Nat.le_refl _⟩
theorem OpAt.cell {w:World} {b:Nat} {x:Opp} {q:Option Addr} {c:Nat} (h:OpAt w b x q c) (i:Nat):w.cell? ⟨b,i,none⟩=(opL x q c)[i]?:=by
 obtain ⟨T,h⟩:=h
 rw [cell_of_row w b i _ T (0,0) h]
 simp [opA]
theorem OpAt.free {w:World} {b:Nat} {x:Opp} {q:Option Addr} {c:Nat} (h:OpAt w b x q c) (i:Nat):w.frozen? ⟨b,i,none⟩=false:=by
 obtain ⟨T,h⟩:=h
 exact frozen_of_row w b i _ T h
theorem OpAt.lt {w:World} {b:Nat} {x:Opp} {q:Option Addr} {c:Nat} (h:OpAt w b x q c):b<w.heap.size:=by
 obtain ⟨T,h⟩:=h
 exact (Array.getElem?_eq_some_iff.1 h).1
theorem OpAt.block {w w':World} {b:Nat} {x:Opp} {q:Option Addr} {c:Nat} (h:OpAt w b x q c) (e:w'.heap[b]?=w.heap[b]?):OpAt w' b x q c:=by
 obtain ⟨T,h⟩:=h
 exact ⟨T,e.trans h⟩
theorem OpAt.below {w w':World} {b:Nat} {x:Opp} {q:Option Addr} {c:Nat} (h:OpAt w b x q c) {B:Nat} (hb:Below B w w') (hB:b<B):OpAt w' b x q c:=h.block (hb.block b hB)
theorem OpAt.kept {w w':World} {b:Nat} {x:Opp} {q:Option Addr} {c:Nat} (h:OpAt w b x q c) (hb:Below w.heap.size w w'):OpAt w' b x q c:=h.below hb h.lt
theorem OpAt.new (w:World) (x:Opp) (q:Option Addr) (c:Nat) (T:TypeId):OpAt (w.alloc (.cells (opA x q c) T)) w.heap.size x q c:=⟨T,heap_alloc_new w _⟩
theorem OpAt.cells {w:World} {b:Nat} {x:Opp} {q:Option Addr} {c:Nat} (h:OpAt w b x q c) :
  w.cell? ⟨b,0,none⟩=some (.int .i64 x.k)∧w.cell? ⟨b,1,none⟩=some (.int .i64 x.nt)∧w.cell? ⟨b,2,none⟩=some (.int .i64 x.nr)∧w.cell? ⟨b,3,none⟩=some (.int .i64 x.rt)∧w.cell? ⟨b,4,none⟩=some (.int .i64 x.rr) ∧
  w.cell? ⟨b,5,none⟩=some (.string x.key)∧w.cell? ⟨b,6,none⟩=some (.slice q x.path.length c)∧w.cell? ⟨b,7,none⟩=some (.int .i64 x.p)∧w.cell? ⟨b,8,none⟩=some (.int .i64 x.vk)∧w.cell? ⟨b,9,none⟩=some (.int .i64 x.vn) ∧
  w.cell? ⟨b,10,none⟩=some (.string x.vt)∧w.cell? ⟨b,11,none⟩=some (.bool x.on) :=
 ⟨h.cell 0,h.cell 1,h.cell 2,h.cell 3,h.cell 4,h.cell 5,h.cell 6,h.cell 7,h.cell 8,h.cell 9,h.cell 10,h.cell 11⟩
theorem OpAt.put {w:World} {b:Nat} {x:Opp} {q:Option Addr} {c:Nat} (h:OpAt w b x q c) (i:Nat) (v:Value) (y:Opp) (q':Option Addr) (c':Nat) (e:(opA x q c).setIfInBounds i v=opA y q' c'):OpAt (w.setCell ⟨b,i,none⟩ v) b y q' c':=by
 obtain ⟨T,h⟩:=h
 exact ⟨T,by rw [Go.Joins.block_setCell h,e]⟩
theorem OpAt.setPath {w:World} {b:Nat} {x:Opp} {q:Option Addr} {c:Nat} (h:OpAt w b x q c) (l:List Qm.St) (q':Option Addr) (c':Nat):OpAt (w.setCell ⟨b,6,none⟩ (.slice q' l.length c')) b { x with path:=l } q' c':=h.put 6 _ _ q' c' rfl
structure OT (t:TypeId):Prop where
 und:∃ d,Tryz.prog.underlying t=some (.struct d)
 size:(Tryz.prog.info? t).map (·.size)=some 12
theorem otP:OT 43:=⟨⟨_,Tryz.underlying43⟩,by kernel_rfl⟩
theorem otR:OT 40:=⟨⟨_,Tryz.underlying40⟩,by kernel_rfl⟩
theorem wpList_load_op {t:TypeId} (V:OT t) {ops:Array Oper} {rest:List Oper} {o:Oper} {a:Act} {w:World} {Q:Exit→Act→World→Prop} (hgd:o.guard=none) (y:Operand) (ho:o.op=.load t y)
  (b:Nat) (hx:a.eval y=.pointer (some ⟨b,0,none⟩)) (x:Opp) (q:Option Addr) (c:Nat) (hv:OpAt w b x q c)
  (h:wpList Tryz.prog ops Q rest (a.put o.dst (.agg (opA x q c))) w):wpList Tryz.prog ops Q (o :: rest) a w:=by
 obtain ⟨T,hv⟩:=hv
 obtain ⟨d,hu⟩:=V.und
 exact wpList_load_row hgd t y ho b hx T _ (0,0) _ hv hu rfl (by rw [opA_size]; exact V.size) h
theorem wpList_load_opG {t:TypeId} (V:OT t) {ops:Array Oper} {rest:List Oper} {o:Oper} {a:Act} {w:World} {Q:Exit→Act→World→Prop} (hgd:Region.wanted o (yielded ops a.tmps)=true) (y:Operand) (ho:o.op=.load t y)
  (b:Nat) (hx:a.eval y=.pointer (some ⟨b,0,none⟩)) (x:Opp) (q:Option Addr) (c:Nat) (hv:OpAt w b x q c)
  (h:wpList Tryz.prog ops Q rest (a.put o.dst (.agg (opA x q c))) w):wpList Tryz.prog ops Q (o :: rest) a w:=by
 obtain ⟨T,hv⟩:=hv
 obtain ⟨d,hu⟩:=V.und
 rw [wpList,if_pos hgd]
 exact Or.inl (wp_load_row t y ho b hx T _ (0,0) _ hv hu rfl (by rw [opA_size]; exact V.size) h)
theorem results_op {t:TypeId} (V:OT t) {fn:Func} {p:Tmp} (tmps:Array Value) {w:World} {g:Nat} {x:Opp} {q:Option Addr} {c:Nat} (h:fn.results=#[.cell p t]) (hv:OpAt w g x q c) (hp:tmps.getD p undef=.pointer (some ⟨g,0,none⟩)) :
  (results fn tmps).run Tryz.prog w=.ok (.agg (opA x q c)) w:=by
 obtain ⟨T,hv⟩:=hv
 obtain ⟨d,hu⟩:=V.und
 exact results_cell_row h tmps w g T _ (0,0) _ hp hv hu rfl (by rw [opA_size]; exact V.size)
theorem run_storeVar_op {t:TypeId} (V:OT t) (w:World) (b:Nat) (T:TypeId) (u v:Array Value) (hv:w.heap[b]?=some (.cells u T (0,0))) (hu:u.size=12) (hs:v.size=12) (h1:v.all (·.oneCell')=true):(storeVar t ⟨b,0,none⟩ (.agg v)).run Tryz.prog w=.ok () (w.setRow b v) :=
 run_storeVar_row w b T t u v hv (by rw [hs]; exact V.size) (by rw [hu,hs]) h1
theorem wpList_store_op {t:TypeId} (V:OT t) {ops:Array Oper} {rest:List Oper} {o:Oper} {a:Act} {w:World} {Q:Exit→Act→World→Prop} (hgd:o.guard=none) (x y:Operand) (ho:o.op=.store t x y)
  (b:Nat) (hx:a.eval x=.pointer (some ⟨b,0,none⟩)) (T:TypeId) (u:Array Value) (hv:w.heap[b]?=some (.cells u T (0,0))) (hu:u.size=12) (v:Opp) (q:Option Addr) (c:Nat) (hy:a.eval y=.agg (opA v q c))
  (h:∀ w':World,OpAt w' b v q c→(∀ k,k≠b→w'.heap[k]?=w.heap[k]?)→w'.heap.size=w.heap.size→(∀ B w0,Below B w0 w→B≤b→Below B w0 w')→wpList Tryz.prog ops Q rest (a.put o.dst undef) w'):wpList Tryz.prog ops Q (o :: rest) a w:=by
 refine wpList_plain hgd fun K hK=>?_
 have hr:=run_storeVar_op V w b T u (opA v q c) hv hu rfl (opA_one _ _ _)
 have hk:K (a.put o.dst undef) (w.setRow b (opA v q c)):=by
  refine hK _ _ (h _ ⟨T,setRow_heap w b _ _ T _ hv⟩ (fun k hk=>setRow_other w b k _ hk) (by simp) ?_)
  intro B w0 hb hB
  exact hb.trans ⟨rfl,rfl,rfl,by simp,fun k hk=>setRow_other w b k _ (by omega)⟩
 unfold Oper.wp execOp
 simp only [ho,hx,hy,Instr.storeAt,Instr.sureAddr,Sem.run_bind,Sem.run_pure,Result.andThen_ok,hr]
 exact hk
def prA (p:Prt):Array Value:=#[.bool p.node,.bool p.spot,.bool p.master,.bool p.path,.bool p.value,.bool p.on]
def PrAt (w:World) (b:Nat) (p:Prt):Prop:=∃ T,w.heap[b]?=some (.cells (prA p) T (0,0))
theorem PrAt.cells {w:World} {b:Nat} {p:Prt} (h:PrAt w b p) :
  w.cell? ⟨b,0,none⟩=some (.bool p.node)∧w.cell? ⟨b,1,none⟩=some (.bool p.spot)∧w.cell? ⟨b,2,none⟩=some (.bool p.master)∧w.cell? ⟨b,3,none⟩=some (.bool p.path)∧w.cell? ⟨b,4,none⟩=some (.bool p.value)∧w.cell? ⟨b,5,none⟩=some (.bool p.on):=by
 obtain ⟨T,h⟩:=h
 refine ⟨?_,?_,?_,?_,?_,?_⟩ <;> rw [cell_of_row w b _ _ T (0,0) h] <;> rfl
theorem PrAt.lt {w:World} {b:Nat} {p:Prt} (h:PrAt w b p):b<w.heap.size:=by
 obtain ⟨T,h⟩:=h
 exact (Array.getElem?_eq_some_iff.1 h).1
theorem PrAt.block {w w':World} {b:Nat} {p:Prt} (h:PrAt w b p) (e:w'.heap[b]?=w.heap[b]?):PrAt w' b p:=by
 obtain ⟨T,h⟩:=h
 exact ⟨T,e.trans h⟩
theorem PrAt.kept {w w':World} {b:Nat} {p:Prt} (h:PrAt w b p) (hb:Below w.heap.size w w'):PrAt w' b p:=h.block (hb.block b h.lt)
theorem PrAt.new (w:World) (p:Prt) (T:TypeId):PrAt (w.alloc (.cells (prA p) T)) w.heap.size p:=⟨T,heap_alloc_new w _⟩
theorem ret_b {a b:Bool} (h:a=b):Ending.returned (.bool a)=.returned (.bool b):=by rw [h]
open Go.RowKit
theorem onode_any (t r:Int) (w:World):Calls Tryz.prog 83 #[.agg #[.int .i64 t,.int .i64 r]] w fun e w'=>e=.returned (.bool (okNode t r))∧Below w.heap.size w w':=by
 have HB:=Hi ((Below.refl w.heap.size w).alloc (Nat.le_refl _) (.cells #[.int .i64 t,.int .i64 r] 35))
 have HT:=Hi (TwoAt.start w t r)
 cases hR:rightB t r with
 | false =>
  have HR:=Hi (show okNode t r=false by unfold okNode; rw [hR]; rfl)
  have HRB:=Hi hR
  clear hR
  go_enter Tryz.func83,Tryz.ntmps83
  go_wp2_with fail
  refine (right_any t r _).mono ?_
  rw [HRB.out]
  rintro e w1 ⟨rfl,hb1⟩
  have HB1:=Hi (HB.out.trans (hb1.mono (by simp)))
  clear hb1
  go_wp2
  go_ret
  exact ⟨ret_b HR.out.symm,HB1.out⟩
 | true =>
  have HRB:=Hi hR
  have HR:=Hi (show okNode t r=decide (1≤t) by unfold okNode; rw [hR]; rfl)
  clear hR
  go_enter Tryz.func83,Tryz.ntmps83
  go_wp2_with fail
  refine (right_any t r _).mono ?_
  rw [HRB.out]
  rintro e w1 ⟨rfl,hb1⟩
  have HB1:=Hi (HB.out.trans (hb1.mono (by simp)))
  have c0:=(HT.out.kept hb1).cell0
  clear hb1
  go_wp2
  go_ret
  exact ⟨ret_b HR.out.symm,HB1.out⟩
theorem three_boxes (w:World) (a b c d e f:Int):∀ W,W=((w.alloc (.cells #[.int .i64 a,.int .i64 b] 35)).alloc (.cells #[.int .i64 c,.int .i64 d] 35)).alloc (.cells #[.int .i64 e,.int .i64 f] 35) →
  TwoAt W w.heap.size a b∧TwoAt W (w.heap.size+1) c d∧TwoAt W (w.heap.size+1+1) e f∧Below w.heap.size w W:=by
 rintro W rfl
 have h1:∀ (w:World) (o:Obj),Below w.heap.size w (w.alloc o):=fun w o=>(Below.refl _ _).alloc (Nat.le_refl _) _
 have k2:=TwoAt.start (w.alloc (.cells #[.int .i64 a,.int .i64 b] 35)) c d
 have k3:=TwoAt.start ((w.alloc (.cells #[.int .i64 a,.int .i64 b] 35)).alloc (.cells #[.int .i64 c,.int .i64 d] 35)) e f
 have e1:∀ (w:World) (o:Obj),(w.alloc o).heap.size=w.heap.size+1:=fun w o=>by simp
 simp only [e1] at k2 k3
 exact ⟨((TwoAt.start w a b).kept (h1 _ _)).kept (h1 _ _),k2.kept (h1 _ _),k3,(h1 _ _).trans (((h1 _ _).mono (by simp)).trans ((h1 _ _).mono (by simp; omega)))⟩
theorem oplace_any (t r:Int) (w:World):Calls Tryz.prog 251 #[.agg #[.int .i64 t,.int .i64 r]] w fun e w'=>e=.returned (.bool (okPlace t r))∧Below w.heap.size w w':=by
 obtain ⟨T0,T1,T2,hb⟩:=three_boxes w t r 0 0 0 1 _ rfl
 have HB:=Hi hb
 have HT0:=Hi T0
 have HT1:=Hi T1
 have HT2:=Hi T2
 clear hb T0 T1 T2
 cases hR:okNode t r with
 | true =>
  have HR:=Hi (show okPlace t r=true by unfold okPlace; rw [hR]; rfl)
  have HRB:=Hi hR
  clear hR
  go_enter Tryz.func251,Tryz.ntmps251
  go_wp2_with fail
  refine (onode_any t r _).mono ?_
  rw [HRB.out]
  rintro e w1 ⟨rfl,hb1⟩
  have HB1:=Hi (HB.out.trans (hb1.mono (by simp; omega)))
  clear hb1
  go_wp2
  go_ret
  exact ⟨ret_b HR.out.symm,HB1.out⟩
 | false =>
  have HRB:=Hi hR
  have HR:=Hi (show okPlace t r=(isZ t r || isT t r) by unfold okPlace; rw [hR]; rfl)
  clear hR
  by_cases ht:t=0
  ·subst ht
   by_cases h0:r=0
   ·subst h0
    have HV:=Hi (show (isZ 0 0 || isT 0 0)=true from rfl)
    go_enter Tryz.func251,Tryz.ntmps251
    go_wp2_with fail
    refine (onode_any _ _ _).mono ?_
    rw [HRB.out]
    rintro e w1 ⟨rfl,hb1⟩
    have HB1:=Hi (HB.out.trans (hb1.mono (by simp; omega)))
    have x0:=(HT0.out.kept hb1).cell0
    have x1:=(HT0.out.kept hb1).cell1
    have y0:=(HT1.out.kept hb1).cell0
    have y1:=(HT1.out.kept hb1).cell1
    have z0:=(HT2.out.kept hb1).cell0
    have z1:=(HT2.out.kept hb1).cell1
    clear hb1
    go_wp2
    go_ret
    exact ⟨ret_b (HR.out.trans HV.out).symm,HB1.out⟩
   ·have e0:(r == 0)=false:=by simpa using h0
    by_cases h1:r=1
    ·subst h1
     have HV:=Hi (show (isZ 0 1 || isT 0 1)=true from rfl)
     go_enter Tryz.func251,Tryz.ntmps251
     go_wp2_with fail
     refine (onode_any _ _ _).mono ?_
     rw [HRB.out]
     rintro e w1 ⟨rfl,hb1⟩
     have HB1:=Hi (HB.out.trans (hb1.mono (by simp; omega)))
     have x0:=(HT0.out.kept hb1).cell0
     have x1:=(HT0.out.kept hb1).cell1
     have y0:=(HT1.out.kept hb1).cell0
     have y1:=(HT1.out.kept hb1).cell1
     have z0:=(HT2.out.kept hb1).cell0
     have z1:=(HT2.out.kept hb1).cell1
     clear hb1
     go_wp2
     go_ret
     exact ⟨ret_b (HR.out.trans HV.out).symm,HB1.out⟩
    ·have e1:(r == 1)=false:=by simpa using h1
     have HV:=Hi (show (isZ 0 r || isT 0 r)=false by unfold isZ isT; rw [e0,e1]; rfl)
     go_enter Tryz.func251,Tryz.ntmps251
     go_wp2_with fail
     refine (onode_any _ _ _).mono ?_
     rw [HRB.out]
     rintro e w1 ⟨rfl,hb1⟩
     have HB1:=Hi (HB.out.trans (hb1.mono (by simp; omega)))
     have x0:=(HT0.out.kept hb1).cell0
     have x1:=(HT0.out.kept hb1).cell1
     have y0:=(HT1.out.kept hb1).cell0
     have y1:=(HT1.out.kept hb1).cell1
     have z0:=(HT2.out.kept hb1).cell0
     have z1:=(HT2.out.kept hb1).cell1
     clear hb1
     go_wp2
     go_ret
     exact ⟨ret_b (HR.out.trans HV.out).symm,HB1.out⟩
  ·have e0:(t == 0)=false:=by simpa using ht
   have HV:=Hi (show (isZ t r || isT t r)=false by unfold isZ isT; rw [e0]; rfl)
   go_enter Tryz.func251,Tryz.ntmps251
   go_wp2_with fail
   refine (onode_any _ _ _).mono ?_
   rw [HRB.out]
   rintro e w1 ⟨rfl,hb1⟩
   have HB1:=Hi (HB.out.trans (hb1.mono (by simp; omega)))
   have x0:=(HT0.out.kept hb1).cell0
   have x1:=(HT0.out.kept hb1).cell1
   have y0:=(HT1.out.kept hb1).cell0
   have y1:=(HT1.out.kept hb1).cell1
   have z0:=(HT2.out.kept hb1).cell0
   have z1:=(HT2.out.kept hb1).cell1
   clear hb1
   go_wp2
   go_ret
   exact ⟨ret_b (HR.out.trans HV.out).symm,HB1.out⟩
open Go.RowKit
theorem okPath_no {l:List Qm.St} {k:Nat} (hk:k<l.length) (h:okNode (Qm.stOf l k).1 (Qm.stOf l k).2=false):okPath l=false:=by
 have hm:Qm.stOf l k ∈ l:=by
  have:Qm.stOf l k=l[k]:=by simp [Qm.stOf,hk]
  rw [this]; exact List.getElem_mem hk
 unfold okPath
 rw [show (l.all fun s=>okNode s.1 s.2)=false from ?_,Bool.and_false]
 rw [List.all_eq_false]
 exact ⟨_,hm,by rw [h]; simp⟩
theorem okPath_yes {l:List Qm.St} (h0:1≤l.length) (h8:l.length≤8) (h:∀ i,i<l.length→okNode (Qm.stOf l i).1 (Qm.stOf l i).2=true):okPath l=true:=by
 unfold okPath
 rw [decide_eq_true h0,decide_eq_true h8,Bool.true_and,Bool.true_and,List.all_eq_true]
 intro s hs
 obtain ⟨i,hi,rfl⟩:=List.mem_iff_getElem.1 hs
 have:=h i hi
 simpa [Qm.stOf,hi] using this
theorem isPath_any (p:Option Addr) (c:Nat) (l:List Qm.St) (w:World) (h:Rd w p (stCells l)) (hl:l.length≤4611686018427387904) :
  Calls Tryz.prog 253 #[.slice p l.length c] w fun e w'=>e=.returned (.bool (okPath l))∧Below w.heap.size w w':=by
 have HRD:=Hi h
 by_cases h0:l.length=0
 ·have HR:=Hi (show okPath l=false by unfold okPath; rw [h0]; rfl)
  clear h
  generalize l.length=n at *
  subst h0
  go_enter Tryz.func253,Tryz.ntmps253
  go_wp2
  go_ret
  exact ⟨ret_b HR.out.symm,Below.refl _ _⟩
 ·by_cases h8:8<l.length
  ·have HR:=Hi (show okPath l=false by unfold okPath; rw [decide_eq_false (show ¬ l.length≤8 by omega)]; simp)
   have d1:decide ((l.length:Int)<1)=false:=decide_eq_false (by omega)
   have d2:decide ((8:Int)<(l.length:Int))=true:=decide_eq_true (by omega)
   clear h
   generalize l.length=n at *
   go_enter Tryz.func253,Tryz.ntmps253
   go_wp2
   go_ret
   exact ⟨ret_b HR.out.symm,Below.refl _ _⟩
  ·obtain ⟨b,o,rfl,hb⟩:=h.addr (by rw [stCells_length]; omega)
   have d1:decide ((l.length:Int)<1)=false:=decide_eq_false (by omega)
   have d2:decide ((8:Int)<(l.length:Int))=false:=decide_eq_false (by omega)
   have hLEN:=Hi (show 1≤l.length∧l.length≤8 by omega)
   clear h
   go_enter Tryz.func253,Tryz.ntmps253
   go_wp2
   clear d1 d2
   go_loopw [15] (fun i wr=>∃ k:Nat,k≤l.length∧i=.int .i64 (k:Int)∧(∀ j,j<k→okNode (Qm.stOf l j).1 (Qm.stOf l j).2=true)∧Below w.heap.size w wr) (fun i _=>l.length - (intOf i).toNat)
   case atStart=>exact ⟨0,Nat.zero_le _,rfl,fun j hj=>absurd hj (Nat.not_lt_zero _),Below.refl _ _⟩
   case round =>
    obtain ⟨k,hk,rfl,ho,hbw⟩:=hrel
    have HO:=Hi ho
    have HBW:=Hi hbw
    clear ho hbw
    by_cases hlt:k<l.length
    ·obtain ⟨c0,c1⟩:=(HRD.out.base HBW.out (fun a ha=>by cases ha; exact hb)).st k hlt
     have HN:=Hi (show ∀ W,Calls Tryz.prog 83 #[.agg #[.int .i64 (Qm.stOf l k).1,.int .i64 (Qm.stOf l k).2]] W fun e w'=>e=.returned (.bool (okNode (Qm.stOf l k).1 (Qm.stOf l k).2))∧Below W.heap.size W w' from fun W=>onode_any _ _ W)
     have HNO:=Hi (fun h=>okPath_no (l:=l) hlt h)
     have HST:=Hi (show ∀ j,j<k+1→okNode (Qm.stOf l k).1 (Qm.stOf l k).2=true→okNode (Qm.stOf l j).1 (Qm.stOf l j).2=true from fun j hj he=>by
      rcases Nat.lt_or_ge j k with e | e
      ·exact HO.out j e
      ·obtain rfl:j=k:=by omega
       exact he)
     cases hN:okNode (Qm.stOf l k).1 (Qm.stOf l k).2 with
     | false =>
      have HR:=Hi (HNO.out hN)
      rw [hN] at HN
      clear hN HST HNO
      generalize (Qm.stOf l k).1=s at *
      generalize (Qm.stOf l k).2=t at *
      have HB2:=Hi (HBW.out.alloc HBW.out.size (.cells #[.int .i64 s,.int .i64 t] 35))
      go_wp2_with fail
      refine (HN.out _).mono ?_
      rintro e w1 ⟨rfl,hb1⟩
      have HB3:=Hi (HB2.out.trans (hb1.mono HB2.out.size))
      clear hb1
      go_wp2
      go_ret
      exact ⟨ret_b HR.out.symm,HB3.out⟩
     | true =>
      have HR:=Hi (fun j hj=>HST.out j hj hN)
      rw [hN] at HN
      clear hN HST HNO
      generalize (Qm.stOf l k).1=s at *
      generalize (Qm.stOf l k).2=t at *
      have HB2:=Hi (HBW.out.alloc HBW.out.size (.cells #[.int .i64 s,.int .i64 t] 35))
      go_wp2_with fail
      refine (HN.out _).mono ?_
      rintro e w1 ⟨rfl,hb1⟩
      have HB3:=Hi (HB2.out.trans (hb1.mono HB2.out.size))
      clear hb1
      go_wp2
      go_roundw
      case rel=>exact ⟨k+1,by omega,by go_num,HR.out,HB3.out⟩
      case measure=>simp [intOf]; omega
    ·obtain rfl:k=l.length:=by omega
     have HR:=Hi (okPath_yes hLEN.out.1 hLEN.out.2 HO.out)
     go_wp2
     go_ret
     exact ⟨ret_b HR.out.symm,HBW.out⟩
open Go.RowKit
theorem okey_any (k:ByteArray) (w:World) (h:k.size≤140737488355328):Calls Tryz.prog 252 #[.string k] w fun e w'=>e=.returned (.bool (Km.rightB k.data.toList))∧Below w.heap.size w w' :=
 (kright_any k w h).mono fun e w' ⟨h1,h2⟩=>⟨h1,by rw [h2]; exact Below.refl _ _⟩
structure Sz (x:Opp):Prop where
 key:x.key.size≤140737488355328
 val:x.vt.size≤4611686018427387904
 path:x.path.length≤4611686018427387904
theorem fit_start (w:World) (p:Prt) (A:Array Value) (hA:A=prA p) (x:Opp) (q:Option Addr) (c:Nat) (ha:Pa w x q c) :
  Hid (PrAt ((w.alloc (.cells A 244)).alloc (.cells (opA x q c) 43)) w.heap.size p)∧Hid (OpAt ((w.alloc (.cells A 244)).alloc (.cells (opA x q c) 43)) (w.heap.size+1) x q c) ∧
  Hid (Pa ((w.alloc (.cells A 244)).alloc (.cells (opA x q c) 43)) x q c)∧Hid (Below w.heap.size w ((w.alloc (.cells A 244)).alloc (.cells (opA x q c) 43))):=by
 subst hA
 have h1:∀ (w:World) (o:Obj),Below w.heap.size w (w.alloc o):=fun w o=>(Below.refl _ _).alloc (Nat.le_refl _) _
 have e1:(w.alloc (.cells (prA p) 244)).heap.size=w.heap.size+1:=by simp
 have k:=OpAt.new (w.alloc (.cells (prA p) 244)) x q c 43
 rw [e1] at k
 exact ⟨Hi ((PrAt.new w p _).kept (h1 _ _)),Hi k,Hi ((ha.kept (h1 _ _)).kept (h1 _ _)),Hi ((h1 _ _).trans ((h1 _ _).mono (by simp)))⟩
theorem fit1_any (x:Opp) (q:Option Addr) (c:Nat) (w:World) (hs:Sz x) (ha:Pa w x q c):Calls Tryz.prog 164 #[.agg #[.bool false,.bool true,.bool false,.bool false,.bool false,.bool false],.agg (opA x q c)] w fun e w'=>e=.returned (.bool (fitO ⟨false,true,false,false,false,false⟩ x))∧Below w.heap.size w w':=by
 obtain ⟨HP,HX,HA,HB⟩:=fit_start w ⟨false,true,false,false,false,false⟩ #[.bool false,.bool true,.bool false,.bool false,.bool false,.bool false] rfl x q c ha
 cases e_place:okPlace x.rt x.rr with
 | false =>
  have HR:=Hi (show fitO ⟨false,true,false,false,false,false⟩ x=false by simp [fitO,e_place])
  have E_place:=Hi e_place
  clear e_place
  obtain ⟨p0,p1,p2,p3,p4,p5⟩:=HP.out.cells
  obtain ⟨x0,x1,x2,x3,x4,x5,x6,x7,x8,x9,x10,x11⟩:=HX.out.cells
  dsimp only at p0 p1 p2 p3 p4 p5
  go_enter Tryz.func164,Tryz.ntmps164
  go_wp2_with fail
  refine (oplace_any x.rt x.rr _).mono ?_
  rw [E_place.out]
  rintro e w1 ⟨rfl,hb1⟩
  replace HB:=Hi (HB.out.trans (hb1.mono HB.out.size))
  replace HP:=Hi (HP.out.kept hb1)
  replace HX:=Hi (HX.out.kept hb1)
  replace HA:=Hi (HA.out.kept hb1)
  clear hb1
  obtain ⟨p0,p1,p2,p3,p4,p5⟩:=HP.out.cells
  obtain ⟨x0,x1,x2,x3,x4,x5,x6,x7,x8,x9,x10,x11⟩:=HX.out.cells
  dsimp only at p0 p1 p2 p3 p4 p5
  go_wp2
  go_ret
  exact ⟨ret_b HR.out.symm,HB.out⟩
 | true =>
  cases e_key:Km.rightB x.key.data.toList with
  | false =>
   have HR:=Hi (show fitO ⟨false,true,false,false,false,false⟩ x=false by simp [fitO,e_place,e_key])
   have E_place:=Hi e_place
   clear e_place
   have E_key:=Hi e_key
   clear e_key
   obtain ⟨p0,p1,p2,p3,p4,p5⟩:=HP.out.cells
   obtain ⟨x0,x1,x2,x3,x4,x5,x6,x7,x8,x9,x10,x11⟩:=HX.out.cells
   dsimp only at p0 p1 p2 p3 p4 p5
   go_enter Tryz.func164,Tryz.ntmps164
   go_wp2_with fail
   refine (oplace_any x.rt x.rr _).mono ?_
   rw [E_place.out]
   rintro e w1 ⟨rfl,hb1⟩
   replace HB:=Hi (HB.out.trans (hb1.mono HB.out.size))
   replace HP:=Hi (HP.out.kept hb1)
   replace HX:=Hi (HX.out.kept hb1)
   replace HA:=Hi (HA.out.kept hb1)
   clear hb1
   obtain ⟨p0,p1,p2,p3,p4,p5⟩:=HP.out.cells
   obtain ⟨x0,x1,x2,x3,x4,x5,x6,x7,x8,x9,x10,x11⟩:=HX.out.cells
   dsimp only at p0 p1 p2 p3 p4 p5
   go_wp2_with fail
   refine (okey_any x.key _ hs.key).mono ?_
   rw [E_key.out]
   rintro e w1 ⟨rfl,hb1⟩
   replace HB:=Hi (HB.out.trans (hb1.mono HB.out.size))
   replace HP:=Hi (HP.out.kept hb1)
   replace HX:=Hi (HX.out.kept hb1)
   replace HA:=Hi (HA.out.kept hb1)
   clear hb1
   obtain ⟨p0,p1,p2,p3,p4,p5⟩:=HP.out.cells
   obtain ⟨x0,x1,x2,x3,x4,x5,x6,x7,x8,x9,x10,x11⟩:=HX.out.cells
   dsimp only at p0 p1 p2 p3 p4 p5
   go_wp2
   go_ret
   exact ⟨ret_b HR.out.symm,HB.out⟩
  | true =>
   have HR:=Hi (show fitO ⟨false,true,false,false,false,false⟩ x=true by simp [fitO,e_place,e_key])
   have E_place:=Hi e_place
   clear e_place
   have E_key:=Hi e_key
   clear e_key
   obtain ⟨p0,p1,p2,p3,p4,p5⟩:=HP.out.cells
   obtain ⟨x0,x1,x2,x3,x4,x5,x6,x7,x8,x9,x10,x11⟩:=HX.out.cells
   dsimp only at p0 p1 p2 p3 p4 p5
   go_enter Tryz.func164,Tryz.ntmps164
   go_wp2_with fail
   refine (oplace_any x.rt x.rr _).mono ?_
   rw [E_place.out]
   rintro e w1 ⟨rfl,hb1⟩
   replace HB:=Hi (HB.out.trans (hb1.mono HB.out.size))
   replace HP:=Hi (HP.out.kept hb1)
   replace HX:=Hi (HX.out.kept hb1)
   replace HA:=Hi (HA.out.kept hb1)
   clear hb1
   obtain ⟨p0,p1,p2,p3,p4,p5⟩:=HP.out.cells
   obtain ⟨x0,x1,x2,x3,x4,x5,x6,x7,x8,x9,x10,x11⟩:=HX.out.cells
   dsimp only at p0 p1 p2 p3 p4 p5
   go_wp2_with fail
   refine (okey_any x.key _ hs.key).mono ?_
   rw [E_key.out]
   rintro e w1 ⟨rfl,hb1⟩
   replace HB:=Hi (HB.out.trans (hb1.mono HB.out.size))
   replace HP:=Hi (HP.out.kept hb1)
   replace HX:=Hi (HX.out.kept hb1)
   replace HA:=Hi (HA.out.kept hb1)
   clear hb1
   obtain ⟨p0,p1,p2,p3,p4,p5⟩:=HP.out.cells
   obtain ⟨x0,x1,x2,x3,x4,x5,x6,x7,x8,x9,x10,x11⟩:=HX.out.cells
   dsimp only at p0 p1 p2 p3 p4 p5
   go_wp2
   go_ret
   exact ⟨ret_b HR.out.symm,HB.out⟩
theorem fit2_any (x:Opp) (q:Option Addr) (c:Nat) (w:World) (hs:Sz x) (ha:Pa w x q c):Calls Tryz.prog 164 #[.agg #[.bool true,.bool true,.bool false,.bool false,.bool false,.bool false],.agg (opA x q c)] w fun e w'=>e=.returned (.bool (fitO ⟨true,true,false,false,false,false⟩ x))∧Below w.heap.size w w':=by
 obtain ⟨HP,HX,HA,HB⟩:=fit_start w ⟨true,true,false,false,false,false⟩ #[.bool true,.bool true,.bool false,.bool false,.bool false,.bool false] rfl x q c ha
 cases e_node:okNode x.nt x.nr with
 | false =>
  have HR:=Hi (show fitO ⟨true,true,false,false,false,false⟩ x=false by simp [fitO,e_node])
  have E_node:=Hi e_node
  clear e_node
  obtain ⟨p0,p1,p2,p3,p4,p5⟩:=HP.out.cells
  obtain ⟨x0,x1,x2,x3,x4,x5,x6,x7,x8,x9,x10,x11⟩:=HX.out.cells
  dsimp only at p0 p1 p2 p3 p4 p5
  go_enter Tryz.func164,Tryz.ntmps164
  go_wp2_with fail
  refine (onode_any x.nt x.nr _).mono ?_
  rw [E_node.out]
  rintro e w1 ⟨rfl,hb1⟩
  replace HB:=Hi (HB.out.trans (hb1.mono HB.out.size))
  replace HP:=Hi (HP.out.kept hb1)
  replace HX:=Hi (HX.out.kept hb1)
  replace HA:=Hi (HA.out.kept hb1)
  clear hb1
  obtain ⟨p0,p1,p2,p3,p4,p5⟩:=HP.out.cells
  obtain ⟨x0,x1,x2,x3,x4,x5,x6,x7,x8,x9,x10,x11⟩:=HX.out.cells
  dsimp only at p0 p1 p2 p3 p4 p5
  go_wp2
  go_ret
  exact ⟨ret_b HR.out.symm,HB.out⟩
 | true =>
  cases e_place:okPlace x.rt x.rr with
  | false =>
   have HR:=Hi (show fitO ⟨true,true,false,false,false,false⟩ x=false by simp [fitO,e_node,e_place])
   have E_node:=Hi e_node
   clear e_node
   have E_place:=Hi e_place
   clear e_place
   obtain ⟨p0,p1,p2,p3,p4,p5⟩:=HP.out.cells
   obtain ⟨x0,x1,x2,x3,x4,x5,x6,x7,x8,x9,x10,x11⟩:=HX.out.cells
   dsimp only at p0 p1 p2 p3 p4 p5
   go_enter Tryz.func164,Tryz.ntmps164
   go_wp2_with fail
   refine (onode_any x.nt x.nr _).mono ?_
   rw [E_node.out]
   rintro e w1 ⟨rfl,hb1⟩
   replace HB:=Hi (HB.out.trans (hb1.mono HB.out.size))
   replace HP:=Hi (HP.out.kept hb1)
   replace HX:=Hi (HX.out.kept hb1)
   replace HA:=Hi (HA.out.kept hb1)
   clear hb1
   obtain ⟨p0,p1,p2,p3,p4,p5⟩:=HP.out.cells
   obtain ⟨x0,x1,x2,x3,x4,x5,x6,x7,x8,x9,x10,x11⟩:=HX.out.cells
   dsimp only at p0 p1 p2 p3 p4 p5
   go_wp2_with fail
   refine (oplace_any x.rt x.rr _).mono ?_
   rw [E_place.out]
   rintro e w1 ⟨rfl,hb1⟩
   replace HB:=Hi (HB.out.trans (hb1.mono HB.out.size))
   replace HP:=Hi (HP.out.kept hb1)
   replace HX:=Hi (HX.out.kept hb1)
   replace HA:=Hi (HA.out.kept hb1)
   clear hb1
   obtain ⟨p0,p1,p2,p3,p4,p5⟩:=HP.out.cells
   obtain ⟨x0,x1,x2,x3,x4,x5,x6,x7,x8,x9,x10,x11⟩:=HX.out.cells
   dsimp only at p0 p1 p2 p3 p4 p5
   go_wp2
   go_ret
   exact ⟨ret_b HR.out.symm,HB.out⟩
  | true =>
   cases e_key:Km.rightB x.key.data.toList with
   | false =>
    have HR:=Hi (show fitO ⟨true,true,false,false,false,false⟩ x=false by simp [fitO,e_node,e_place,e_key])
    have E_node:=Hi e_node
    clear e_node
    have E_place:=Hi e_place
    clear e_place
    have E_key:=Hi e_key
    clear e_key
    obtain ⟨p0,p1,p2,p3,p4,p5⟩:=HP.out.cells
    obtain ⟨x0,x1,x2,x3,x4,x5,x6,x7,x8,x9,x10,x11⟩:=HX.out.cells
    dsimp only at p0 p1 p2 p3 p4 p5
    go_enter Tryz.func164,Tryz.ntmps164
    go_wp2_with fail
    refine (onode_any x.nt x.nr _).mono ?_
    rw [E_node.out]
    rintro e w1 ⟨rfl,hb1⟩
    replace HB:=Hi (HB.out.trans (hb1.mono HB.out.size))
    replace HP:=Hi (HP.out.kept hb1)
    replace HX:=Hi (HX.out.kept hb1)
    replace HA:=Hi (HA.out.kept hb1)
    clear hb1
    obtain ⟨p0,p1,p2,p3,p4,p5⟩:=HP.out.cells
    obtain ⟨x0,x1,x2,x3,x4,x5,x6,x7,x8,x9,x10,x11⟩:=HX.out.cells
    dsimp only at p0 p1 p2 p3 p4 p5
    go_wp2_with fail
    refine (oplace_any x.rt x.rr _).mono ?_
    rw [E_place.out]
    rintro e w1 ⟨rfl,hb1⟩
    replace HB:=Hi (HB.out.trans (hb1.mono HB.out.size))
    replace HP:=Hi (HP.out.kept hb1)
    replace HX:=Hi (HX.out.kept hb1)
    replace HA:=Hi (HA.out.kept hb1)
    clear hb1
    obtain ⟨p0,p1,p2,p3,p4,p5⟩:=HP.out.cells
    obtain ⟨x0,x1,x2,x3,x4,x5,x6,x7,x8,x9,x10,x11⟩:=HX.out.cells
    dsimp only at p0 p1 p2 p3 p4 p5
    go_wp2_with fail
    refine (okey_any x.key _ hs.key).mono ?_
    rw [E_key.out]
    rintro e w1 ⟨rfl,hb1⟩
    replace HB:=Hi (HB.out.trans (hb1.mono HB.out.size))
    replace HP:=Hi (HP.out.kept hb1)
    replace HX:=Hi (HX.out.kept hb1)
    replace HA:=Hi (HA.out.kept hb1)
    clear hb1
    obtain ⟨p0,p1,p2,p3,p4,p5⟩:=HP.out.cells
    obtain ⟨x0,x1,x2,x3,x4,x5,x6,x7,x8,x9,x10,x11⟩:=HX.out.cells
    dsimp only at p0 p1 p2 p3 p4 p5
    go_wp2
    go_ret
    exact ⟨ret_b HR.out.symm,HB.out⟩
   | true =>
    have HR:=Hi (show fitO ⟨true,true,false,false,false,false⟩ x=true by simp [fitO,e_node,e_place,e_key])
    have E_node:=Hi e_node
    clear e_node
    have E_place:=Hi e_place
    clear e_place
    have E_key:=Hi e_key
    clear e_key
    obtain ⟨p0,p1,p2,p3,p4,p5⟩:=HP.out.cells
    obtain ⟨x0,x1,x2,x3,x4,x5,x6,x7,x8,x9,x10,x11⟩:=HX.out.cells
    dsimp only at p0 p1 p2 p3 p4 p5
    go_enter Tryz.func164,Tryz.ntmps164
    go_wp2_with fail
    refine (onode_any x.nt x.nr _).mono ?_
    rw [E_node.out]
    rintro e w1 ⟨rfl,hb1⟩
    replace HB:=Hi (HB.out.trans (hb1.mono HB.out.size))
    replace HP:=Hi (HP.out.kept hb1)
    replace HX:=Hi (HX.out.kept hb1)
    replace HA:=Hi (HA.out.kept hb1)
    clear hb1
    obtain ⟨p0,p1,p2,p3,p4,p5⟩:=HP.out.cells
    obtain ⟨x0,x1,x2,x3,x4,x5,x6,x7,x8,x9,x10,x11⟩:=HX.out.cells
    dsimp only at p0 p1 p2 p3 p4 p5
    go_wp2_with fail
    refine (oplace_any x.rt x.rr _).mono ?_
    rw [E_place.out]
    rintro e w1 ⟨rfl,hb1⟩
    replace HB:=Hi (HB.out.trans (hb1.mono HB.out.size))
    replace HP:=Hi (HP.out.kept hb1)
    replace HX:=Hi (HX.out.kept hb1)
    replace HA:=Hi (HA.out.kept hb1)
    clear hb1
    obtain ⟨p0,p1,p2,p3,p4,p5⟩:=HP.out.cells
    obtain ⟨x0,x1,x2,x3,x4,x5,x6,x7,x8,x9,x10,x11⟩:=HX.out.cells
    dsimp only at p0 p1 p2 p3 p4 p5
    go_wp2_with fail
    refine (okey_any x.key _ hs.key).mono ?_
    rw [E_key.out]
    rintro e w1 ⟨rfl,hb1⟩
    replace HB:=Hi (HB.out.trans (hb1.mono HB.out.size))
    replace HP:=Hi (HP.out.kept hb1)
    replace HX:=Hi (HX.out.kept hb1)
    replace HA:=Hi (HA.out.kept hb1)
    clear hb1
    obtain ⟨p0,p1,p2,p3,p4,p5⟩:=HP.out.cells
    obtain ⟨x0,x1,x2,x3,x4,x5,x6,x7,x8,x9,x10,x11⟩:=HX.out.cells
    dsimp only at p0 p1 p2 p3 p4 p5
    go_wp2
    go_ret
    exact ⟨ret_b HR.out.symm,HB.out⟩
theorem fit3_any (x:Opp) (q:Option Addr) (c:Nat) (w:World) (hs:Sz x) (ha:Pa w x q c):Calls Tryz.prog 164 #[.agg #[.bool true,.bool false,.bool false,.bool false,.bool true,.bool false],.agg (opA x q c)] w fun e w'=>e=.returned (.bool (fitO ⟨true,false,false,false,true,false⟩ x))∧Below w.heap.size w w':=by
 obtain ⟨HP,HX,HA,HB⟩:=fit_start w ⟨true,false,false,false,true,false⟩ #[.bool true,.bool false,.bool false,.bool false,.bool true,.bool false] rfl x q c ha
 cases e_node:okNode x.nt x.nr with
 | false =>
  have HR:=Hi (show fitO ⟨true,false,false,false,true,false⟩ x=false by simp [fitO,e_node])
  have E_node:=Hi e_node
  clear e_node
  obtain ⟨p0,p1,p2,p3,p4,p5⟩:=HP.out.cells
  obtain ⟨x0,x1,x2,x3,x4,x5,x6,x7,x8,x9,x10,x11⟩:=HX.out.cells
  dsimp only at p0 p1 p2 p3 p4 p5
  go_enter Tryz.func164,Tryz.ntmps164
  go_wp2_with fail
  refine (onode_any x.nt x.nr _).mono ?_
  rw [E_node.out]
  rintro e w1 ⟨rfl,hb1⟩
  replace HB:=Hi (HB.out.trans (hb1.mono HB.out.size))
  replace HP:=Hi (HP.out.kept hb1)
  replace HX:=Hi (HX.out.kept hb1)
  replace HA:=Hi (HA.out.kept hb1)
  clear hb1
  obtain ⟨p0,p1,p2,p3,p4,p5⟩:=HP.out.cells
  obtain ⟨x0,x1,x2,x3,x4,x5,x6,x7,x8,x9,x10,x11⟩:=HX.out.cells
  dsimp only at p0 p1 p2 p3 p4 p5
  go_wp2
  go_ret
  exact ⟨ret_b HR.out.symm,HB.out⟩
 | true =>
  cases e_value:right8V x.p x.vk x.vn x.vt.data.toList with
  | false =>
   have HR:=Hi (show fitO ⟨true,false,false,false,true,false⟩ x=false by simp [fitO,e_node,e_value])
   have E_node:=Hi e_node
   clear e_node
   have E_value:=Hi e_value
   clear e_value
   obtain ⟨p0,p1,p2,p3,p4,p5⟩:=HP.out.cells
   obtain ⟨x0,x1,x2,x3,x4,x5,x6,x7,x8,x9,x10,x11⟩:=HX.out.cells
   dsimp only at p0 p1 p2 p3 p4 p5
   go_enter Tryz.func164,Tryz.ntmps164
   go_wp2_with fail
   refine (onode_any x.nt x.nr _).mono ?_
   rw [E_node.out]
   rintro e w1 ⟨rfl,hb1⟩
   replace HB:=Hi (HB.out.trans (hb1.mono HB.out.size))
   replace HP:=Hi (HP.out.kept hb1)
   replace HX:=Hi (HX.out.kept hb1)
   replace HA:=Hi (HA.out.kept hb1)
   clear hb1
   obtain ⟨p0,p1,p2,p3,p4,p5⟩:=HP.out.cells
   obtain ⟨x0,x1,x2,x3,x4,x5,x6,x7,x8,x9,x10,x11⟩:=HX.out.cells
   dsimp only at p0 p1 p2 p3 p4 p5
   go_wp2_with fail
   refine (vright8_any x.p x.vk x.vn x.vt _ hs.val).mono ?_
   rw [E_value.out]
   rintro e w1 ⟨rfl,hb1⟩
   replace HB:=Hi (HB.out.trans (hb1.mono HB.out.size))
   replace HP:=Hi (HP.out.kept hb1)
   replace HX:=Hi (HX.out.kept hb1)
   replace HA:=Hi (HA.out.kept hb1)
   clear hb1
   obtain ⟨p0,p1,p2,p3,p4,p5⟩:=HP.out.cells
   obtain ⟨x0,x1,x2,x3,x4,x5,x6,x7,x8,x9,x10,x11⟩:=HX.out.cells
   dsimp only at p0 p1 p2 p3 p4 p5
   go_wp2
   go_ret
   exact ⟨ret_b HR.out.symm,HB.out⟩
  | true =>
   have HR:=Hi (show fitO ⟨true,false,false,false,true,false⟩ x=true by simp [fitO,e_node,e_value])
   have E_node:=Hi e_node
   clear e_node
   have E_value:=Hi e_value
   clear e_value
   obtain ⟨p0,p1,p2,p3,p4,p5⟩:=HP.out.cells
   obtain ⟨x0,x1,x2,x3,x4,x5,x6,x7,x8,x9,x10,x11⟩:=HX.out.cells
   dsimp only at p0 p1 p2 p3 p4 p5
   go_enter Tryz.func164,Tryz.ntmps164
   go_wp2_with fail
   refine (onode_any x.nt x.nr _).mono ?_
   rw [E_node.out]
   rintro e w1 ⟨rfl,hb1⟩
   replace HB:=Hi (HB.out.trans (hb1.mono HB.out.size))
   replace HP:=Hi (HP.out.kept hb1)
   replace HX:=Hi (HX.out.kept hb1)
   replace HA:=Hi (HA.out.kept hb1)
   clear hb1
   obtain ⟨p0,p1,p2,p3,p4,p5⟩:=HP.out.cells
   obtain ⟨x0,x1,x2,x3,x4,x5,x6,x7,x8,x9,x10,x11⟩:=HX.out.cells
   dsimp only at p0 p1 p2 p3 p4 p5
   go_wp2_with fail
   refine (vright8_any x.p x.vk x.vn x.vt _ hs.val).mono ?_
   rw [E_value.out]
   rintro e w1 ⟨rfl,hb1⟩
   replace HB:=Hi (HB.out.trans (hb1.mono HB.out.size))
   replace HP:=Hi (HP.out.kept hb1)
   replace HX:=Hi (HX.out.kept hb1)
   replace HA:=Hi (HA.out.kept hb1)
   clear hb1
   obtain ⟨p0,p1,p2,p3,p4,p5⟩:=HP.out.cells
   obtain ⟨x0,x1,x2,x3,x4,x5,x6,x7,x8,x9,x10,x11⟩:=HX.out.cells
   dsimp only at p0 p1 p2 p3 p4 p5
   go_wp2
   go_ret
   exact ⟨ret_b HR.out.symm,HB.out⟩
theorem fit4_any (x:Opp) (q:Option Addr) (c:Nat) (w:World) (_:Sz x) (ha:Pa w x q c):Calls Tryz.prog 164 #[.agg #[.bool true,.bool false,.bool false,.bool false,.bool false,.bool true],.agg (opA x q c)] w fun e w'=>e=.returned (.bool (fitO ⟨true,false,false,false,false,true⟩ x))∧Below w.heap.size w w':=by
 obtain ⟨HP,HX,HA,HB⟩:=fit_start w ⟨true,false,false,false,false,true⟩ #[.bool true,.bool false,.bool false,.bool false,.bool false,.bool true] rfl x q c ha
 cases e_node:okNode x.nt x.nr with
 | false =>
  have HR:=Hi (show fitO ⟨true,false,false,false,false,true⟩ x=false by simp [fitO,e_node])
  have E_node:=Hi e_node
  clear e_node
  obtain ⟨p0,p1,p2,p3,p4,p5⟩:=HP.out.cells
  obtain ⟨x0,x1,x2,x3,x4,x5,x6,x7,x8,x9,x10,x11⟩:=HX.out.cells
  dsimp only at p0 p1 p2 p3 p4 p5
  go_enter Tryz.func164,Tryz.ntmps164
  go_wp2_with fail
  refine (onode_any x.nt x.nr _).mono ?_
  rw [E_node.out]
  rintro e w1 ⟨rfl,hb1⟩
  replace HB:=Hi (HB.out.trans (hb1.mono HB.out.size))
  replace HP:=Hi (HP.out.kept hb1)
  replace HX:=Hi (HX.out.kept hb1)
  replace HA:=Hi (HA.out.kept hb1)
  clear hb1
  obtain ⟨p0,p1,p2,p3,p4,p5⟩:=HP.out.cells
  obtain ⟨x0,x1,x2,x3,x4,x5,x6,x7,x8,x9,x10,x11⟩:=HX.out.cells
  dsimp only at p0 p1 p2 p3 p4 p5
  go_wp2
  go_ret
  exact ⟨ret_b HR.out.symm,HB.out⟩
 | true =>
  have HR:=Hi (show fitO ⟨true,false,false,false,false,true⟩ x=true by simp [fitO,e_node])
  have E_node:=Hi e_node
  clear e_node
  obtain ⟨p0,p1,p2,p3,p4,p5⟩:=HP.out.cells
  obtain ⟨x0,x1,x2,x3,x4,x5,x6,x7,x8,x9,x10,x11⟩:=HX.out.cells
  dsimp only at p0 p1 p2 p3 p4 p5
  go_enter Tryz.func164,Tryz.ntmps164
  go_wp2_with fail
  refine (onode_any x.nt x.nr _).mono ?_
  rw [E_node.out]
  rintro e w1 ⟨rfl,hb1⟩
  replace HB:=Hi (HB.out.trans (hb1.mono HB.out.size))
  replace HP:=Hi (HP.out.kept hb1)
  replace HX:=Hi (HX.out.kept hb1)
  replace HA:=Hi (HA.out.kept hb1)
  clear hb1
  obtain ⟨p0,p1,p2,p3,p4,p5⟩:=HP.out.cells
  obtain ⟨x0,x1,x2,x3,x4,x5,x6,x7,x8,x9,x10,x11⟩:=HX.out.cells
  dsimp only at p0 p1 p2 p3 p4 p5
  go_wp2
  go_ret
  exact ⟨ret_b HR.out.symm,HB.out⟩
theorem fit5_any (x:Opp) (q:Option Addr) (c:Nat) (w:World) (_:Sz x) (ha:Pa w x q c):Calls Tryz.prog 164 #[.agg #[.bool true,.bool false,.bool true,.bool false,.bool false,.bool false],.agg (opA x q c)] w fun e w'=>e=.returned (.bool (fitO ⟨true,false,true,false,false,false⟩ x))∧Below w.heap.size w w':=by
 obtain ⟨HP,HX,HA,HB⟩:=fit_start w ⟨true,false,true,false,false,false⟩ #[.bool true,.bool false,.bool true,.bool false,.bool false,.bool false] rfl x q c ha
 cases e_node:okNode x.nt x.nr with
 | false =>
  have HR:=Hi (show fitO ⟨true,false,true,false,false,false⟩ x=false by simp [fitO,e_node])
  have E_node:=Hi e_node
  clear e_node
  obtain ⟨p0,p1,p2,p3,p4,p5⟩:=HP.out.cells
  obtain ⟨x0,x1,x2,x3,x4,x5,x6,x7,x8,x9,x10,x11⟩:=HX.out.cells
  dsimp only at p0 p1 p2 p3 p4 p5
  go_enter Tryz.func164,Tryz.ntmps164
  go_wp2_with fail
  refine (onode_any x.nt x.nr _).mono ?_
  rw [E_node.out]
  rintro e w1 ⟨rfl,hb1⟩
  replace HB:=Hi (HB.out.trans (hb1.mono HB.out.size))
  replace HP:=Hi (HP.out.kept hb1)
  replace HX:=Hi (HX.out.kept hb1)
  replace HA:=Hi (HA.out.kept hb1)
  clear hb1
  obtain ⟨p0,p1,p2,p3,p4,p5⟩:=HP.out.cells
  obtain ⟨x0,x1,x2,x3,x4,x5,x6,x7,x8,x9,x10,x11⟩:=HX.out.cells
  dsimp only at p0 p1 p2 p3 p4 p5
  go_wp2
  go_ret
  exact ⟨ret_b HR.out.symm,HB.out⟩
 | true =>
  cases e_master:okNode x.rt x.rr with
  | false =>
   by_cases hz:x.rt=0
   ·by_cases hy:x.rr=0
    ·have z0:(x.rt == 0)=true:=by simpa using hz
     have z1:(x.rr == 0)=true:=by simpa using hy
     clear hz hy
     have HR:=Hi (show fitO ⟨true,false,true,false,false,false⟩ x=true by simp [fitO,e_master,e_node,isZ,z0,z1])
     have E_node:=Hi e_node
     clear e_node
     have E_master:=Hi e_master
     clear e_master
     obtain ⟨p0,p1,p2,p3,p4,p5⟩:=HP.out.cells
     obtain ⟨x0,x1,x2,x3,x4,x5,x6,x7,x8,x9,x10,x11⟩:=HX.out.cells
     dsimp only at p0 p1 p2 p3 p4 p5
     go_enter Tryz.func164,Tryz.ntmps164
     go_wp2_with fail
     refine (onode_any x.nt x.nr _).mono ?_
     rw [E_node.out]
     rintro e w1 ⟨rfl,hb1⟩
     replace HB:=Hi (HB.out.trans (hb1.mono HB.out.size))
     replace HP:=Hi (HP.out.kept hb1)
     replace HX:=Hi (HX.out.kept hb1)
     replace HA:=Hi (HA.out.kept hb1)
     clear hb1
     obtain ⟨p0,p1,p2,p3,p4,p5⟩:=HP.out.cells
     obtain ⟨x0,x1,x2,x3,x4,x5,x6,x7,x8,x9,x10,x11⟩:=HX.out.cells
     dsimp only at p0 p1 p2 p3 p4 p5
     go_wp2_with fail
     refine (onode_any x.rt x.rr _).mono ?_
     rw [E_master.out]
     rintro e w1 ⟨rfl,hb1⟩
     replace HB:=Hi (HB.out.trans (hb1.mono HB.out.size))
     replace HP:=Hi (HP.out.kept hb1)
     replace HX:=Hi (HX.out.kept hb1)
     replace HA:=Hi (HA.out.kept hb1)
     clear hb1
     obtain ⟨p0,p1,p2,p3,p4,p5⟩:=HP.out.cells
     obtain ⟨x0,x1,x2,x3,x4,x5,x6,x7,x8,x9,x10,x11⟩:=HX.out.cells
     dsimp only at p0 p1 p2 p3 p4 p5
     go_wp2
     go_ret
     exact ⟨ret_b HR.out.symm,HB.out⟩
    ·have z0:(x.rt == 0)=true:=by simpa using hz
     have z1:(x.rr == 0)=false:=by simpa using hy
     clear hz hy
     have HR:=Hi (show fitO ⟨true,false,true,false,false,false⟩ x=false by simp [fitO,e_master,e_node,isZ,z0,z1])
     have E_node:=Hi e_node
     clear e_node
     have E_master:=Hi e_master
     clear e_master
     obtain ⟨p0,p1,p2,p3,p4,p5⟩:=HP.out.cells
     obtain ⟨x0,x1,x2,x3,x4,x5,x6,x7,x8,x9,x10,x11⟩:=HX.out.cells
     dsimp only at p0 p1 p2 p3 p4 p5
     go_enter Tryz.func164,Tryz.ntmps164
     go_wp2_with fail
     refine (onode_any x.nt x.nr _).mono ?_
     rw [E_node.out]
     rintro e w1 ⟨rfl,hb1⟩
     replace HB:=Hi (HB.out.trans (hb1.mono HB.out.size))
     replace HP:=Hi (HP.out.kept hb1)
     replace HX:=Hi (HX.out.kept hb1)
     replace HA:=Hi (HA.out.kept hb1)
     clear hb1
     obtain ⟨p0,p1,p2,p3,p4,p5⟩:=HP.out.cells
     obtain ⟨x0,x1,x2,x3,x4,x5,x6,x7,x8,x9,x10,x11⟩:=HX.out.cells
     dsimp only at p0 p1 p2 p3 p4 p5
     go_wp2_with fail
     refine (onode_any x.rt x.rr _).mono ?_
     rw [E_master.out]
     rintro e w1 ⟨rfl,hb1⟩
     replace HB:=Hi (HB.out.trans (hb1.mono HB.out.size))
     replace HP:=Hi (HP.out.kept hb1)
     replace HX:=Hi (HX.out.kept hb1)
     replace HA:=Hi (HA.out.kept hb1)
     clear hb1
     obtain ⟨p0,p1,p2,p3,p4,p5⟩:=HP.out.cells
     obtain ⟨x0,x1,x2,x3,x4,x5,x6,x7,x8,x9,x10,x11⟩:=HX.out.cells
     dsimp only at p0 p1 p2 p3 p4 p5
     go_wp2
     go_ret
     exact ⟨ret_b HR.out.symm,HB.out⟩
   ·have z0:(x.rt == 0)=false:=by simpa using hz
    clear hz
    have HR:=Hi (show fitO ⟨true,false,true,false,false,false⟩ x=false by simp [fitO,e_master,e_node,isZ,z0])
    have E_node:=Hi e_node
    clear e_node
    have E_master:=Hi e_master
    clear e_master
    obtain ⟨p0,p1,p2,p3,p4,p5⟩:=HP.out.cells
    obtain ⟨x0,x1,x2,x3,x4,x5,x6,x7,x8,x9,x10,x11⟩:=HX.out.cells
    dsimp only at p0 p1 p2 p3 p4 p5
    go_enter Tryz.func164,Tryz.ntmps164
    go_wp2_with fail
    refine (onode_any x.nt x.nr _).mono ?_
    rw [E_node.out]
    rintro e w1 ⟨rfl,hb1⟩
    replace HB:=Hi (HB.out.trans (hb1.mono HB.out.size))
    replace HP:=Hi (HP.out.kept hb1)
    replace HX:=Hi (HX.out.kept hb1)
    replace HA:=Hi (HA.out.kept hb1)
    clear hb1
    obtain ⟨p0,p1,p2,p3,p4,p5⟩:=HP.out.cells
    obtain ⟨x0,x1,x2,x3,x4,x5,x6,x7,x8,x9,x10,x11⟩:=HX.out.cells
    dsimp only at p0 p1 p2 p3 p4 p5
    go_wp2_with fail
    refine (onode_any x.rt x.rr _).mono ?_
    rw [E_master.out]
    rintro e w1 ⟨rfl,hb1⟩
    replace HB:=Hi (HB.out.trans (hb1.mono HB.out.size))
    replace HP:=Hi (HP.out.kept hb1)
    replace HX:=Hi (HX.out.kept hb1)
    replace HA:=Hi (HA.out.kept hb1)
    clear hb1
    obtain ⟨p0,p1,p2,p3,p4,p5⟩:=HP.out.cells
    obtain ⟨x0,x1,x2,x3,x4,x5,x6,x7,x8,x9,x10,x11⟩:=HX.out.cells
    dsimp only at p0 p1 p2 p3 p4 p5
    go_wp2
    go_ret
    exact ⟨ret_b HR.out.symm,HB.out⟩
  | true =>
   have HR:=Hi (show fitO ⟨true,false,true,false,false,false⟩ x=true by simp [fitO,e_node,e_master])
   have E_node:=Hi e_node
   clear e_node
   have E_master:=Hi e_master
   clear e_master
   obtain ⟨p0,p1,p2,p3,p4,p5⟩:=HP.out.cells
   obtain ⟨x0,x1,x2,x3,x4,x5,x6,x7,x8,x9,x10,x11⟩:=HX.out.cells
   dsimp only at p0 p1 p2 p3 p4 p5
   go_enter Tryz.func164,Tryz.ntmps164
   go_wp2_with fail
   refine (onode_any x.nt x.nr _).mono ?_
   rw [E_node.out]
   rintro e w1 ⟨rfl,hb1⟩
   replace HB:=Hi (HB.out.trans (hb1.mono HB.out.size))
   replace HP:=Hi (HP.out.kept hb1)
   replace HX:=Hi (HX.out.kept hb1)
   replace HA:=Hi (HA.out.kept hb1)
   clear hb1
   obtain ⟨p0,p1,p2,p3,p4,p5⟩:=HP.out.cells
   obtain ⟨x0,x1,x2,x3,x4,x5,x6,x7,x8,x9,x10,x11⟩:=HX.out.cells
   dsimp only at p0 p1 p2 p3 p4 p5
   go_wp2_with fail
   refine (onode_any x.rt x.rr _).mono ?_
   rw [E_master.out]
   rintro e w1 ⟨rfl,hb1⟩
   replace HB:=Hi (HB.out.trans (hb1.mono HB.out.size))
   replace HP:=Hi (HP.out.kept hb1)
   replace HX:=Hi (HX.out.kept hb1)
   replace HA:=Hi (HA.out.kept hb1)
   clear hb1
   obtain ⟨p0,p1,p2,p3,p4,p5⟩:=HP.out.cells
   obtain ⟨x0,x1,x2,x3,x4,x5,x6,x7,x8,x9,x10,x11⟩:=HX.out.cells
   dsimp only at p0 p1 p2 p3 p4 p5
   go_wp2
   go_ret
   exact ⟨ret_b HR.out.symm,HB.out⟩
theorem fit6_any (x:Opp) (q:Option Addr) (c:Nat) (w:World) (hs:Sz x) (ha:Pa w x q c):Calls Tryz.prog 164 #[.agg #[.bool true,.bool false,.bool false,.bool true,.bool true,.bool false],.agg (opA x q c)] w fun e w'=>e=.returned (.bool (fitO ⟨true,false,false,true,true,false⟩ x))∧Below w.heap.size w w':=by
 obtain ⟨HP,HX,HA,HB⟩:=fit_start w ⟨true,false,false,true,true,false⟩ #[.bool true,.bool false,.bool false,.bool true,.bool true,.bool false] rfl x q c ha
 cases e_node:okNode x.nt x.nr with
 | false =>
  have HR:=Hi (show fitO ⟨true,false,false,true,true,false⟩ x=false by simp [fitO,e_node])
  have E_node:=Hi e_node
  clear e_node
  obtain ⟨p0,p1,p2,p3,p4,p5⟩:=HP.out.cells
  obtain ⟨x0,x1,x2,x3,x4,x5,x6,x7,x8,x9,x10,x11⟩:=HX.out.cells
  dsimp only at p0 p1 p2 p3 p4 p5
  go_enter Tryz.func164,Tryz.ntmps164
  go_wp2_with fail
  refine (onode_any x.nt x.nr _).mono ?_
  rw [E_node.out]
  rintro e w1 ⟨rfl,hb1⟩
  replace HB:=Hi (HB.out.trans (hb1.mono HB.out.size))
  replace HP:=Hi (HP.out.kept hb1)
  replace HX:=Hi (HX.out.kept hb1)
  replace HA:=Hi (HA.out.kept hb1)
  clear hb1
  obtain ⟨p0,p1,p2,p3,p4,p5⟩:=HP.out.cells
  obtain ⟨x0,x1,x2,x3,x4,x5,x6,x7,x8,x9,x10,x11⟩:=HX.out.cells
  dsimp only at p0 p1 p2 p3 p4 p5
  go_wp2
  go_ret
  exact ⟨ret_b HR.out.symm,HB.out⟩
 | true =>
  cases e_path:okPath x.path with
  | false =>
   have HR:=Hi (show fitO ⟨true,false,false,true,true,false⟩ x=false by simp [fitO,e_node,e_path])
   have E_node:=Hi e_node
   clear e_node
   have E_path:=Hi e_path
   clear e_path
   obtain ⟨p0,p1,p2,p3,p4,p5⟩:=HP.out.cells
   obtain ⟨x0,x1,x2,x3,x4,x5,x6,x7,x8,x9,x10,x11⟩:=HX.out.cells
   dsimp only at p0 p1 p2 p3 p4 p5
   go_enter Tryz.func164,Tryz.ntmps164
   go_wp2_with fail
   refine (onode_any x.nt x.nr _).mono ?_
   rw [E_node.out]
   rintro e w1 ⟨rfl,hb1⟩
   replace HB:=Hi (HB.out.trans (hb1.mono HB.out.size))
   replace HP:=Hi (HP.out.kept hb1)
   replace HX:=Hi (HX.out.kept hb1)
   replace HA:=Hi (HA.out.kept hb1)
   clear hb1
   obtain ⟨p0,p1,p2,p3,p4,p5⟩:=HP.out.cells
   obtain ⟨x0,x1,x2,x3,x4,x5,x6,x7,x8,x9,x10,x11⟩:=HX.out.cells
   dsimp only at p0 p1 p2 p3 p4 p5
   go_wp2_with fail
   refine (isPath_any q c x.path _ HA.out.rd hs.path).mono ?_
   rw [E_path.out]
   rintro e w1 ⟨rfl,hb1⟩
   replace HB:=Hi (HB.out.trans (hb1.mono HB.out.size))
   replace HP:=Hi (HP.out.kept hb1)
   replace HX:=Hi (HX.out.kept hb1)
   replace HA:=Hi (HA.out.kept hb1)
   clear hb1
   obtain ⟨p0,p1,p2,p3,p4,p5⟩:=HP.out.cells
   obtain ⟨x0,x1,x2,x3,x4,x5,x6,x7,x8,x9,x10,x11⟩:=HX.out.cells
   dsimp only at p0 p1 p2 p3 p4 p5
   go_wp2
   go_ret
   exact ⟨ret_b HR.out.symm,HB.out⟩
  | true =>
   cases e_value:right8V x.p x.vk x.vn x.vt.data.toList with
   | false =>
    have HR:=Hi (show fitO ⟨true,false,false,true,true,false⟩ x=false by simp [fitO,e_node,e_path,e_value])
    have E_node:=Hi e_node
    clear e_node
    have E_path:=Hi e_path
    clear e_path
    have E_value:=Hi e_value
    clear e_value
    obtain ⟨p0,p1,p2,p3,p4,p5⟩:=HP.out.cells
    obtain ⟨x0,x1,x2,x3,x4,x5,x6,x7,x8,x9,x10,x11⟩:=HX.out.cells
    dsimp only at p0 p1 p2 p3 p4 p5
    go_enter Tryz.func164,Tryz.ntmps164
    go_wp2_with fail
    refine (onode_any x.nt x.nr _).mono ?_
    rw [E_node.out]
    rintro e w1 ⟨rfl,hb1⟩
    replace HB:=Hi (HB.out.trans (hb1.mono HB.out.size))
    replace HP:=Hi (HP.out.kept hb1)
    replace HX:=Hi (HX.out.kept hb1)
    replace HA:=Hi (HA.out.kept hb1)
    clear hb1
    obtain ⟨p0,p1,p2,p3,p4,p5⟩:=HP.out.cells
    obtain ⟨x0,x1,x2,x3,x4,x5,x6,x7,x8,x9,x10,x11⟩:=HX.out.cells
    dsimp only at p0 p1 p2 p3 p4 p5
    go_wp2_with fail
    refine (isPath_any q c x.path _ HA.out.rd hs.path).mono ?_
    rw [E_path.out]
    rintro e w1 ⟨rfl,hb1⟩
    replace HB:=Hi (HB.out.trans (hb1.mono HB.out.size))
    replace HP:=Hi (HP.out.kept hb1)
    replace HX:=Hi (HX.out.kept hb1)
    replace HA:=Hi (HA.out.kept hb1)
    clear hb1
    obtain ⟨p0,p1,p2,p3,p4,p5⟩:=HP.out.cells
    obtain ⟨x0,x1,x2,x3,x4,x5,x6,x7,x8,x9,x10,x11⟩:=HX.out.cells
    dsimp only at p0 p1 p2 p3 p4 p5
    go_wp2_with fail
    refine (vright8_any x.p x.vk x.vn x.vt _ hs.val).mono ?_
    rw [E_value.out]
    rintro e w1 ⟨rfl,hb1⟩
    replace HB:=Hi (HB.out.trans (hb1.mono HB.out.size))
    replace HP:=Hi (HP.out.kept hb1)
    replace HX:=Hi (HX.out.kept hb1)
    replace HA:=Hi (HA.out.kept hb1)
    clear hb1
    obtain ⟨p0,p1,p2,p3,p4,p5⟩:=HP.out.cells
    obtain ⟨x0,x1,x2,x3,x4,x5,x6,x7,x8,x9,x10,x11⟩:=HX.out.cells
    dsimp only at p0 p1 p2 p3 p4 p5
    go_wp2
    go_ret
    exact ⟨ret_b HR.out.symm,HB.out⟩
   | true =>
    have HR:=Hi (show fitO ⟨true,false,false,true,true,false⟩ x=true by simp [fitO,e_node,e_path,e_value])
    have E_node:=Hi e_node
    clear e_node
    have E_path:=Hi e_path
    clear e_path
    have E_value:=Hi e_value
    clear e_value
    obtain ⟨p0,p1,p2,p3,p4,p5⟩:=HP.out.cells
    obtain ⟨x0,x1,x2,x3,x4,x5,x6,x7,x8,x9,x10,x11⟩:=HX.out.cells
    dsimp only at p0 p1 p2 p3 p4 p5
    go_enter Tryz.func164,Tryz.ntmps164
    go_wp2_with fail
    refine (onode_any x.nt x.nr _).mono ?_
    rw [E_node.out]
    rintro e w1 ⟨rfl,hb1⟩
    replace HB:=Hi (HB.out.trans (hb1.mono HB.out.size))
    replace HP:=Hi (HP.out.kept hb1)
    replace HX:=Hi (HX.out.kept hb1)
    replace HA:=Hi (HA.out.kept hb1)
    clear hb1
    obtain ⟨p0,p1,p2,p3,p4,p5⟩:=HP.out.cells
    obtain ⟨x0,x1,x2,x3,x4,x5,x6,x7,x8,x9,x10,x11⟩:=HX.out.cells
    dsimp only at p0 p1 p2 p3 p4 p5
    go_wp2_with fail
    refine (isPath_any q c x.path _ HA.out.rd hs.path).mono ?_
    rw [E_path.out]
    rintro e w1 ⟨rfl,hb1⟩
    replace HB:=Hi (HB.out.trans (hb1.mono HB.out.size))
    replace HP:=Hi (HP.out.kept hb1)
    replace HX:=Hi (HX.out.kept hb1)
    replace HA:=Hi (HA.out.kept hb1)
    clear hb1
    obtain ⟨p0,p1,p2,p3,p4,p5⟩:=HP.out.cells
    obtain ⟨x0,x1,x2,x3,x4,x5,x6,x7,x8,x9,x10,x11⟩:=HX.out.cells
    dsimp only at p0 p1 p2 p3 p4 p5
    go_wp2_with fail
    refine (vright8_any x.p x.vk x.vn x.vt _ hs.val).mono ?_
    rw [E_value.out]
    rintro e w1 ⟨rfl,hb1⟩
    replace HB:=Hi (HB.out.trans (hb1.mono HB.out.size))
    replace HP:=Hi (HP.out.kept hb1)
    replace HX:=Hi (HX.out.kept hb1)
    replace HA:=Hi (HA.out.kept hb1)
    clear hb1
    obtain ⟨p0,p1,p2,p3,p4,p5⟩:=HP.out.cells
    obtain ⟨x0,x1,x2,x3,x4,x5,x6,x7,x8,x9,x10,x11⟩:=HX.out.cells
    dsimp only at p0 p1 p2 p3 p4 p5
    go_wp2
    go_ret
    exact ⟨ret_b HR.out.symm,HB.out⟩
end Go.Proofs.YthfhefdfehlbkaaGreat
