/-
  BATCHES IN MEMORY: rows of ops, a batch's four cells; what keeps them; loads, stores and answers of whole ones.
  No conditions.
  alone: is each part that is not named zero, of each kind.
  No conditions but sizes.
  What a kind names.
  No conditions.
-/
import Derived.Test.YthfhefdfehlbkaaGreatSh
import Derived.Test.YthfhefdfehlbkaaGreatK02
import Derived.Test.YthfhefdfehlbkaaGreatK03
set_option maxRecDepth 100000
set_option maxHeartbeats 4000000
namespace Go.Proofs.YthfhefdfehlbkaaGreat
open Go.RowKit
section
variable {w w':World} {b:Nat} {A:Array Value} {t:TypeId} {n:Nat}
theorem AgAt.only {k:Nat} (h:AgAt w b A) (ho:Only k w w') (hne:b≠k):AgAt w' b A:=h.block (ho.block b h.lt (by simpa using hne))
end
structure En where
 x:Opp
 q:Option Addr
 c:Nat
def enCells (l:List En):List Value:=l.flatMap fun e=>opL e.x e.q e.c
def enOf (l:List En) (i:Nat):En:=l.getD i ⟨Opp.zero,none,0⟩
theorem enCells_length (l:List En):(enCells l).length=l.length * 12:=by
 induction l with
 | nil=>rfl
 | cons a l ih=>simp only [enCells,opL,List.flatMap_cons,List.length_append,List.length_cons,List.length_nil] at ih ⊢; omega
theorem enCells_append (l m:List En):enCells (l ++ m)=enCells l ++ enCells m:=by simp [enCells]
theorem enCells_sing (e:En):enCells [e]=opL e.x e.q e.c:=by simp [enCells]
theorem enCells_one:∀ {l:List En},∀ u ∈ enCells l,u.oneCell'=true:=by
 intro l u hu
 obtain ⟨x,_,hx⟩:=List.mem_flatMap.1 hu
 simp only [opL,List.mem_cons,List.not_mem_nil,or_false] at hx
 rcases hx with rfl | rfl | rfl | rfl | rfl | rfl | rfl | rfl | rfl | rfl | rfl | rfl <;> rfl
theorem opL_length (x:Opp) (q:Option Addr) (c:Nat):(opL x q c).length=12:=rfl
theorem enCells_get (l:List En) (i j:Nat) (h:i<l.length) (hj:j<12):(enCells l)[i * 12+j]?=(opL (enOf l i).x (enOf l i).q (enOf l i).c)[j]?:=by
 induction l generalizing i with
 | nil=>simp at h
 | cons a l ih =>
  have e0:enCells (a :: l)=opL a.x a.q a.c ++ enCells l:=by simp [enCells]
  rw [e0]
  cases i with
  | zero =>
   rw [Nat.zero_mul,Nat.zero_add,List.getElem?_append_left (by rw [opL_length]; exact hj)]
   rfl
  | succ i =>
   rw [List.getElem?_append_right (by rw [opL_length]; omega),opL_length,show (i+1) * 12+j - 12=i * 12+j from by omega,ih i (by simpa using h)]
   rfl
theorem enOf_mem {l:List En} {i:Nat} (h:i<l.length):enOf l i ∈ l:=by
 have:enOf l i=l[i]:=by simp [enOf,h]
 rw [this]; exact List.getElem_mem h
theorem enOf_x {l:List En} {ops:List Opp} (h:l.map (·.x)=ops) (i:Nat):(enOf l i).x=opOf ops i:=by
 subst h
 unfold enOf opOf
 rw [List.getD_eq_getElem?_getD,List.getD_eq_getElem?_getD,List.getElem?_map]
 cases l[i]? <;> rfl
theorem Rd.en {w:World} {b o:Nat} {l:List En} (h:Rd w (some ⟨b,o,none⟩) (enCells l)) (i:Nat) (hi:i<l.length):w.rangeAt b (o+i * 12) (opL (enOf l i).x (enOf l i).q (enOf l i).c):=by
 intro j v hv
 have hj:j<12:=by have:=(List.getElem?_eq_some_iff.1 hv).1; rw [opL_length] at this; exact this
 rw [Nat.add_assoc]
 exact h.cell (by rw [enCells_get l i j hi hj]; exact hv)
theorem wpList_load_en {w:World} {t:TypeId} (V:OT t) {ops:Array Oper} {rest:List Oper} {o:Oper} {a:Act} {Q:Exit→Act→World→Prop} (hgd:o.guard=none) (y:Operand) (ho:o.op=.load t y)
  (b s i:Nat) (hx:a.eval y=.pointer (some ⟨b,s+i * 12,none⟩)) (l:List En) (hrd:Rd w (some ⟨b,s,none⟩) (enCells l)) (hi:i<l.length)
  (h:wpList Tryz.prog ops Q rest (a.put o.dst (.agg (opA (enOf l i).x (enOf l i).q (enOf l i).c))) w):wpList Tryz.prog ops Q (o :: rest) a w:=by
 obtain ⟨d,hu⟩:=V.und
 exact wpList_load_mid hgd t y ho b (s+i * 12) hx (opL (enOf l i).x (enOf l i).q (enOf l i).c) _ (hrd.en i hi) hu rfl V.size h
theorem exec_load_en {w:World} {t:TypeId} (V:OT t) {c:Act} {o:Oper} {x:Operand} (ho:o.op=.load t x) {b s i:Nat} (hx:c.eval x=.pointer (some ⟨b,s+i * 12,none⟩)) (l:List En) (hrd:Rd w (some ⟨b,s,none⟩) (enCells l)) (hi:i<l.length) :
  (execOp c.eval o).run Tryz.prog w=.ok (.value (.agg (opA (enOf l i).x (enOf l i).q (enOf l i).c))) w:=by
 obtain ⟨d,hu⟩:=V.und
 unfold execOp
 simp only [ho,hx,Sem.run_bind,run_loadAt_mid w b (s+i * 12) t (opL (enOf l i).x (enOf l i).q (enOf l i).c) _ (hrd.en i hi) hu rfl V.size,Result.andThen_ok,Sem.run_pure]
 rfl
structure Os (w:World) (p:Option Addr) (c:Nat) (l:List En) (ops:List Opp):Prop where
 map:l.map (·.x)=ops
 rd:Rd w p (enCells l)
 pa:∀ e,e ∈ l→Pa w e.x e.q e.c
 nil:p=none→c=0
 cap:ops.length≤c
theorem Os.len {w:World} {p:Option Addr} {c:Nat} {l:List En} {ops:List Opp} (h:Os w p c l ops):l.length=ops.length:=by rw [← h.map,List.length_map]
theorem Os.kept {w w':World} {p:Option Addr} {c:Nat} {l:List En} {ops:List Opp} (h:Os w p c l ops) (hb:Below w.heap.size w w'):Os w' p c l ops:=⟨h.map,h.rd.below hb,fun e he=>(h.pa e he).kept hb,h.nil,h.cap⟩
theorem Os.x {w:World} {p:Option Addr} {c:Nat} {l:List En} {ops:List Opp} (h:Os w p c l ops) (i:Nat):(enOf l i).x=opOf ops i:=enOf_x h.map i
theorem Os.paOf {w:World} {p:Option Addr} {c:Nat} {l:List En} {ops:List Opp} (h:Os w p c l ops) {i:Nat} (hi:i<ops.length):Pa w (opOf ops i) (enOf l i).q (enOf l i).c:=by
 rw [← h.x i]
 exact h.pa _ (enOf_mem (by rw [h.len]; exact hi))
theorem Os.empty (w:World):Os w none 0 [] []:=⟨rfl,Rd.nil _ _,fun _ h=>(by cases h),fun _=>rfl,Nat.le_refl _⟩
def btA (x:Bat) (p:Option Addr) (c:Nat):Array Value:=#[.int .i64 x.r,.int .i64 x.s,.int .i64 x.t,.slice p x.ops.length c]
theorem btA_one (x:Bat) (p:Option Addr) (c:Nat):(btA x p c).all (·.oneCell')=true:=all_oneCell_toArray (cs:=[.int .i64 x.r,.int .i64 x.s,.int .i64 x.t,.slice p x.ops.length c]) (by
 intro v hv
 simp only [List.mem_cons,List.not_mem_nil,or_false] at hv
 rcases hv with rfl | rfl | rfl | rfl <;> rfl)
abbrev BtAt (w:World) (b:Nat) (x:Bat) (p:Option Addr) (c:Nat):Prop:=AgAt w b (btA x p c)
theorem BtAt.cells {w:World} {b:Nat} {x:Bat} {p:Option Addr} {c:Nat} (h:BtAt w b x p c) :
  w.cell? ⟨b,0,none⟩=some (.int .i64 x.r)∧w.cell? ⟨b,1,none⟩=some (.int .i64 x.s)∧w.cell? ⟨b,2,none⟩=some (.int .i64 x.t)∧w.cell? ⟨b,3,none⟩=some (.slice p x.ops.length c) :=
 ⟨by rw [AgAt.cell h 0]; rfl,by rw [AgAt.cell h 1]; rfl,by rw [AgAt.cell h 2]; rfl,by rw [AgAt.cell h 3]; rfl⟩
theorem btP:AgT 81 4:=⟨⟨_,Tryz.underlying81⟩,by kernel_rfl⟩
theorem btR:AgT 85 4:=⟨⟨_,Tryz.underlying85⟩,by kernel_rfl⟩
def Bops (w:World) (x:Bat) (p:Option Addr) (c:Nat):Prop:=∃ l,Os w p c l x.ops
theorem Bops.kept {w w':World} {x:Bat} {p:Option Addr} {c:Nat} (h:Bops w x p c) (hb:Below w.heap.size w w'):Bops w' x p c:=by
 obtain ⟨l,h⟩:=h
 exact ⟨l,h.kept hb⟩
structure Szs (l:List Opp):Prop where
 each:∀ x,x ∈ l→Sz x
 len:l.length≤10000
theorem Szs.of {l:List Opp} (h:Szs l) {i:Nat} (hi:i<l.length):Sz (opOf l i):=h.each _ (opOf_mem hi)
open Go.RowKit
theorem str_ne {s:ByteArray} (h:¬ s=⟨#[]⟩):s.toList.isEmpty=false:=by
 rw [ByteArray.toList_eq,List.isEmpty_eq_false_iff]
 intro e
 apply h
 obtain ⟨⟨l⟩⟩:=s
 simp at e
 rw [e]
theorem key_eq {x:Opp} (h:x.key=⟨#[]⟩):x.key=⟨#[]⟩:=h
theorem vt_eq {x:Opp} (h:x.vt=⟨#[]⟩):x.vt=⟨#[]⟩:=h
theorem alone1_any (x:Opp) (q:Option Addr) (c:Nat) (w:World) (ha:Pa w x q c):Calls Tryz.prog 165 #[.agg #[.bool false,.bool true,.bool false,.bool false,.bool false,.bool false],.agg (opA x q c)] w fun e w'=>e=.returned (.bool (aloneO ⟨false,true,false,false,false,false⟩ x))∧Below w.heap.size w w':=by
 obtain ⟨HP,HX,HA,HB⟩:=fit_start w ⟨false,true,false,false,false,false⟩ #[.bool false,.bool true,.bool false,.bool false,.bool false,.bool false] rfl x q c ha
 by_cases h_nt:x.nt=0
 ·have z_nt:(x.nt == 0)=true:=by simpa using h_nt
  by_cases h_nr:x.nr=0
  ·have z_nr:(x.nr == 0)=true:=by simpa using h_nr
   by_cases h_path:x.path.length=0
   ·have z_path:((x.path.length:Int) == 0)=true:=by rw [h_path]; rfl
    have y_path:(x.path.length == 0)=true:=by rw [h_path]; rfl
    by_cases h_p:x.p=0
    ·have z_p:(x.p == 0)=true:=by simpa using h_p
     by_cases h_vk:x.vk=0
     ·have z_vk:(x.vk == 0)=true:=by simpa using h_vk
      by_cases h_vn:x.vn=0
      ·have z_vn:(x.vn == 0)=true:=by simpa using h_vn
       by_cases h_vt:x.vt=⟨#[]⟩
       ·have z_vt:=vt_eq h_vt
        have HR:=Hi (show aloneO ⟨false,true,false,false,false,false⟩ x=(!x.on) by simp [aloneO,isZ,isV,z_nt,z_nr,y_path,z_p,z_vk,z_vn,h_vt])
        clear h_nt
        clear h_nr
        clear h_path
        clear h_p
        clear h_vk
        clear h_vn
        clear h_vt
        obtain ⟨p0,p1,p2,p3,p4,p5⟩:=HP.out.cells
        obtain ⟨x0,x1,x2,x3,x4,x5,x6,x7,x8,x9,x10,x11⟩:=HX.out.cells
        dsimp only at p0 p1 p2 p3 p4 p5
        go_enter Tryz.func165,Tryz.ntmps165
        simp only [List.append]
        go_wp2
        go_ret
        exact ⟨ret_b HR.out.symm,HB.out⟩
       ·have z_vt:x.vt.toList.isEmpty=false:=str_ne h_vt
        have HR:=Hi (show aloneO ⟨false,true,false,false,false,false⟩ x=false by simp [aloneO,isZ,isV,z_nt,z_nr,y_path,z_p,z_vk,z_vn,h_vt])
        clear h_nt
        clear h_nr
        clear h_path
        clear h_p
        clear h_vk
        clear h_vn
        clear h_vt
        obtain ⟨p0,p1,p2,p3,p4,p5⟩:=HP.out.cells
        obtain ⟨x0,x1,x2,x3,x4,x5,x6,x7,x8,x9,x10,x11⟩:=HX.out.cells
        dsimp only at p0 p1 p2 p3 p4 p5
        go_enter Tryz.func165,Tryz.ntmps165
        simp only [List.append]
        go_wp2
        go_ret
        exact ⟨ret_b HR.out.symm,HB.out⟩
      ·have z_vn:(x.vn == 0)=false:=by simpa using h_vn
       have HR:=Hi (show aloneO ⟨false,true,false,false,false,false⟩ x=false by simp [aloneO,isZ,isV,z_nt,z_nr,y_path,z_p,z_vk,z_vn])
       clear h_nt
       clear h_nr
       clear h_path
       clear h_p
       clear h_vk
       clear h_vn
       obtain ⟨p0,p1,p2,p3,p4,p5⟩:=HP.out.cells
       obtain ⟨x0,x1,x2,x3,x4,x5,x6,x7,x8,x9,x10,x11⟩:=HX.out.cells
       dsimp only at p0 p1 p2 p3 p4 p5
       go_enter Tryz.func165,Tryz.ntmps165
       simp only [List.append]
       go_wp2
       go_ret
       exact ⟨ret_b HR.out.symm,HB.out⟩
     ·have z_vk:(x.vk == 0)=false:=by simpa using h_vk
      have HR:=Hi (show aloneO ⟨false,true,false,false,false,false⟩ x=false by simp [aloneO,isZ,isV,z_nt,z_nr,y_path,z_p,z_vk])
      clear h_nt
      clear h_nr
      clear h_path
      clear h_p
      clear h_vk
      obtain ⟨p0,p1,p2,p3,p4,p5⟩:=HP.out.cells
      obtain ⟨x0,x1,x2,x3,x4,x5,x6,x7,x8,x9,x10,x11⟩:=HX.out.cells
      dsimp only at p0 p1 p2 p3 p4 p5
      go_enter Tryz.func165,Tryz.ntmps165
      simp only [List.append]
      go_wp2
      go_ret
      exact ⟨ret_b HR.out.symm,HB.out⟩
    ·have z_p:(x.p == 0)=false:=by simpa using h_p
     have HR:=Hi (show aloneO ⟨false,true,false,false,false,false⟩ x=false by simp [aloneO,isZ,isV,z_nt,z_nr,y_path,z_p])
     clear h_nt
     clear h_nr
     clear h_path
     clear h_p
     obtain ⟨p0,p1,p2,p3,p4,p5⟩:=HP.out.cells
     obtain ⟨x0,x1,x2,x3,x4,x5,x6,x7,x8,x9,x10,x11⟩:=HX.out.cells
     dsimp only at p0 p1 p2 p3 p4 p5
     go_enter Tryz.func165,Tryz.ntmps165
     simp only [List.append]
     go_wp2
     go_ret
     exact ⟨ret_b HR.out.symm,HB.out⟩
   ·have z_path:((x.path.length:Int) == 0)=false:=by rw [beq_eq_false_iff_ne]; omega
    have y_path:(x.path.length == 0)=false:=by rw [beq_eq_false_iff_ne]; exact h_path
    have HR:=Hi (show aloneO ⟨false,true,false,false,false,false⟩ x=false by simp [aloneO,isZ,isV,z_nt,z_nr,y_path])
    clear h_nt
    clear h_nr
    clear h_path
    obtain ⟨p0,p1,p2,p3,p4,p5⟩:=HP.out.cells
    obtain ⟨x0,x1,x2,x3,x4,x5,x6,x7,x8,x9,x10,x11⟩:=HX.out.cells
    dsimp only at p0 p1 p2 p3 p4 p5
    go_enter Tryz.func165,Tryz.ntmps165
    simp only [List.append]
    go_wp2
    go_ret
    exact ⟨ret_b HR.out.symm,HB.out⟩
  ·have z_nr:(x.nr == 0)=false:=by simpa using h_nr
   have HR:=Hi (show aloneO ⟨false,true,false,false,false,false⟩ x=false by simp [aloneO,isZ,isV,z_nt,z_nr])
   clear h_nt
   clear h_nr
   obtain ⟨p0,p1,p2,p3,p4,p5⟩:=HP.out.cells
   obtain ⟨x0,x1,x2,x3,x4,x5,x6,x7,x8,x9,x10,x11⟩:=HX.out.cells
   dsimp only at p0 p1 p2 p3 p4 p5
   go_enter Tryz.func165,Tryz.ntmps165
   simp only [List.append]
   go_wp2
   go_ret
   exact ⟨ret_b HR.out.symm,HB.out⟩
 ·have z_nt:(x.nt == 0)=false:=by simpa using h_nt
  have HR:=Hi (show aloneO ⟨false,true,false,false,false,false⟩ x=false by simp [aloneO,isZ,isV,z_nt])
  clear h_nt
  obtain ⟨p0,p1,p2,p3,p4,p5⟩:=HP.out.cells
  obtain ⟨x0,x1,x2,x3,x4,x5,x6,x7,x8,x9,x10,x11⟩:=HX.out.cells
  dsimp only at p0 p1 p2 p3 p4 p5
  go_enter Tryz.func165,Tryz.ntmps165
  simp only [List.append]
  go_wp2
  go_ret
  exact ⟨ret_b HR.out.symm,HB.out⟩
theorem alone2_any (x:Opp) (q:Option Addr) (c:Nat) (w:World) (ha:Pa w x q c):Calls Tryz.prog 165 #[.agg #[.bool true,.bool true,.bool false,.bool false,.bool false,.bool false],.agg (opA x q c)] w fun e w'=>e=.returned (.bool (aloneO ⟨true,true,false,false,false,false⟩ x))∧Below w.heap.size w w':=by
 obtain ⟨HP,HX,HA,HB⟩:=fit_start w ⟨true,true,false,false,false,false⟩ #[.bool true,.bool true,.bool false,.bool false,.bool false,.bool false] rfl x q c ha
 by_cases h_path:x.path.length=0
 ·have z_path:((x.path.length:Int) == 0)=true:=by rw [h_path]; rfl
  have y_path:(x.path.length == 0)=true:=by rw [h_path]; rfl
  by_cases h_p:x.p=0
  ·have z_p:(x.p == 0)=true:=by simpa using h_p
   by_cases h_vk:x.vk=0
   ·have z_vk:(x.vk == 0)=true:=by simpa using h_vk
    by_cases h_vn:x.vn=0
    ·have z_vn:(x.vn == 0)=true:=by simpa using h_vn
     by_cases h_vt:x.vt=⟨#[]⟩
     ·have z_vt:=vt_eq h_vt
      have HR:=Hi (show aloneO ⟨true,true,false,false,false,false⟩ x=(!x.on) by simp [aloneO,isZ,isV,y_path,z_p,z_vk,z_vn,h_vt])
      clear h_path
      clear h_p
      clear h_vk
      clear h_vn
      clear h_vt
      obtain ⟨p0,p1,p2,p3,p4,p5⟩:=HP.out.cells
      obtain ⟨x0,x1,x2,x3,x4,x5,x6,x7,x8,x9,x10,x11⟩:=HX.out.cells
      dsimp only at p0 p1 p2 p3 p4 p5
      go_enter Tryz.func165,Tryz.ntmps165
      simp only [List.append]
      go_wp2
      go_ret
      exact ⟨ret_b HR.out.symm,HB.out⟩
     ·have z_vt:x.vt.toList.isEmpty=false:=str_ne h_vt
      have HR:=Hi (show aloneO ⟨true,true,false,false,false,false⟩ x=false by simp [aloneO,isZ,isV,y_path,z_p,z_vk,z_vn,h_vt])
      clear h_path
      clear h_p
      clear h_vk
      clear h_vn
      clear h_vt
      obtain ⟨p0,p1,p2,p3,p4,p5⟩:=HP.out.cells
      obtain ⟨x0,x1,x2,x3,x4,x5,x6,x7,x8,x9,x10,x11⟩:=HX.out.cells
      dsimp only at p0 p1 p2 p3 p4 p5
      go_enter Tryz.func165,Tryz.ntmps165
      simp only [List.append]
      go_wp2
      go_ret
      exact ⟨ret_b HR.out.symm,HB.out⟩
    ·have z_vn:(x.vn == 0)=false:=by simpa using h_vn
     have HR:=Hi (show aloneO ⟨true,true,false,false,false,false⟩ x=false by simp [aloneO,isZ,isV,y_path,z_p,z_vk,z_vn])
     clear h_path
     clear h_p
     clear h_vk
     clear h_vn
     obtain ⟨p0,p1,p2,p3,p4,p5⟩:=HP.out.cells
     obtain ⟨x0,x1,x2,x3,x4,x5,x6,x7,x8,x9,x10,x11⟩:=HX.out.cells
     dsimp only at p0 p1 p2 p3 p4 p5
     go_enter Tryz.func165,Tryz.ntmps165
     simp only [List.append]
     go_wp2
     go_ret
     exact ⟨ret_b HR.out.symm,HB.out⟩
   ·have z_vk:(x.vk == 0)=false:=by simpa using h_vk
    have HR:=Hi (show aloneO ⟨true,true,false,false,false,false⟩ x=false by simp [aloneO,isZ,isV,y_path,z_p,z_vk])
    clear h_path
    clear h_p
    clear h_vk
    obtain ⟨p0,p1,p2,p3,p4,p5⟩:=HP.out.cells
    obtain ⟨x0,x1,x2,x3,x4,x5,x6,x7,x8,x9,x10,x11⟩:=HX.out.cells
    dsimp only at p0 p1 p2 p3 p4 p5
    go_enter Tryz.func165,Tryz.ntmps165
    simp only [List.append]
    go_wp2
    go_ret
    exact ⟨ret_b HR.out.symm,HB.out⟩
  ·have z_p:(x.p == 0)=false:=by simpa using h_p
   have HR:=Hi (show aloneO ⟨true,true,false,false,false,false⟩ x=false by simp [aloneO,isZ,isV,y_path,z_p])
   clear h_path
   clear h_p
   obtain ⟨p0,p1,p2,p3,p4,p5⟩:=HP.out.cells
   obtain ⟨x0,x1,x2,x3,x4,x5,x6,x7,x8,x9,x10,x11⟩:=HX.out.cells
   dsimp only at p0 p1 p2 p3 p4 p5
   go_enter Tryz.func165,Tryz.ntmps165
   simp only [List.append]
   go_wp2
   go_ret
   exact ⟨ret_b HR.out.symm,HB.out⟩
 ·have z_path:((x.path.length:Int) == 0)=false:=by rw [beq_eq_false_iff_ne]; omega
  have y_path:(x.path.length == 0)=false:=by rw [beq_eq_false_iff_ne]; exact h_path
  have HR:=Hi (show aloneO ⟨true,true,false,false,false,false⟩ x=false by simp [aloneO,isZ,isV,y_path])
  clear h_path
  obtain ⟨p0,p1,p2,p3,p4,p5⟩:=HP.out.cells
  obtain ⟨x0,x1,x2,x3,x4,x5,x6,x7,x8,x9,x10,x11⟩:=HX.out.cells
  dsimp only at p0 p1 p2 p3 p4 p5
  go_enter Tryz.func165,Tryz.ntmps165
  simp only [List.append]
  go_wp2
  go_ret
  exact ⟨ret_b HR.out.symm,HB.out⟩
theorem alone3_any (x:Opp) (q:Option Addr) (c:Nat) (w:World) (ha:Pa w x q c):Calls Tryz.prog 165 #[.agg #[.bool true,.bool false,.bool false,.bool false,.bool true,.bool false],.agg (opA x q c)] w fun e w'=>e=.returned (.bool (aloneO ⟨true,false,false,false,true,false⟩ x))∧Below w.heap.size w w':=by
 obtain ⟨HP,HX,HA,HB⟩:=fit_start w ⟨true,false,false,false,true,false⟩ #[.bool true,.bool false,.bool false,.bool false,.bool true,.bool false] rfl x q c ha
 by_cases h_rt:x.rt=0
 ·have z_rt:(x.rt == 0)=true:=by simpa using h_rt
  by_cases h_rr:x.rr=0
  ·have z_rr:(x.rr == 0)=true:=by simpa using h_rr
   by_cases h_key:x.key=⟨#[]⟩
   ·have z_key:=key_eq h_key
    by_cases h_path:x.path.length=0
    ·have z_path:((x.path.length:Int) == 0)=true:=by rw [h_path]; rfl
     have y_path:(x.path.length == 0)=true:=by rw [h_path]; rfl
     have HR:=Hi (show aloneO ⟨true,false,false,false,true,false⟩ x=(!x.on) by simp [aloneO,isZ,isV,z_rt,z_rr,h_key,y_path])
     clear h_rt
     clear h_rr
     clear h_key
     clear h_path
     obtain ⟨p0,p1,p2,p3,p4,p5⟩:=HP.out.cells
     obtain ⟨x0,x1,x2,x3,x4,x5,x6,x7,x8,x9,x10,x11⟩:=HX.out.cells
     dsimp only at p0 p1 p2 p3 p4 p5
     go_enter Tryz.func165,Tryz.ntmps165
     simp only [List.append]
     go_wp2
     go_ret
     exact ⟨ret_b HR.out.symm,HB.out⟩
    ·have z_path:((x.path.length:Int) == 0)=false:=by rw [beq_eq_false_iff_ne]; omega
     have y_path:(x.path.length == 0)=false:=by rw [beq_eq_false_iff_ne]; exact h_path
     have HR:=Hi (show aloneO ⟨true,false,false,false,true,false⟩ x=false by simp [aloneO,isZ,isV,z_rt,z_rr,h_key,y_path])
     clear h_rt
     clear h_rr
     clear h_key
     clear h_path
     obtain ⟨p0,p1,p2,p3,p4,p5⟩:=HP.out.cells
     obtain ⟨x0,x1,x2,x3,x4,x5,x6,x7,x8,x9,x10,x11⟩:=HX.out.cells
     dsimp only at p0 p1 p2 p3 p4 p5
     go_enter Tryz.func165,Tryz.ntmps165
     simp only [List.append]
     go_wp2
     go_ret
     exact ⟨ret_b HR.out.symm,HB.out⟩
   ·have z_key:x.key.toList.isEmpty=false:=str_ne h_key
    have HR:=Hi (show aloneO ⟨true,false,false,false,true,false⟩ x=false by simp [aloneO,isZ,isV,z_rt,z_rr,h_key])
    clear h_rt
    clear h_rr
    clear h_key
    obtain ⟨p0,p1,p2,p3,p4,p5⟩:=HP.out.cells
    obtain ⟨x0,x1,x2,x3,x4,x5,x6,x7,x8,x9,x10,x11⟩:=HX.out.cells
    dsimp only at p0 p1 p2 p3 p4 p5
    go_enter Tryz.func165,Tryz.ntmps165
    simp only [List.append]
    go_wp2
    go_ret
    exact ⟨ret_b HR.out.symm,HB.out⟩
  ·have z_rr:(x.rr == 0)=false:=by simpa using h_rr
   have HR:=Hi (show aloneO ⟨true,false,false,false,true,false⟩ x=false by simp [aloneO,isZ,isV,z_rt,z_rr])
   clear h_rt
   clear h_rr
   obtain ⟨p0,p1,p2,p3,p4,p5⟩:=HP.out.cells
   obtain ⟨x0,x1,x2,x3,x4,x5,x6,x7,x8,x9,x10,x11⟩:=HX.out.cells
   dsimp only at p0 p1 p2 p3 p4 p5
   go_enter Tryz.func165,Tryz.ntmps165
   simp only [List.append]
   go_wp2
   go_ret
   exact ⟨ret_b HR.out.symm,HB.out⟩
 ·have z_rt:(x.rt == 0)=false:=by simpa using h_rt
  have HR:=Hi (show aloneO ⟨true,false,false,false,true,false⟩ x=false by simp [aloneO,isZ,isV,z_rt])
  clear h_rt
  obtain ⟨p0,p1,p2,p3,p4,p5⟩:=HP.out.cells
  obtain ⟨x0,x1,x2,x3,x4,x5,x6,x7,x8,x9,x10,x11⟩:=HX.out.cells
  dsimp only at p0 p1 p2 p3 p4 p5
  go_enter Tryz.func165,Tryz.ntmps165
  simp only [List.append]
  go_wp2
  go_ret
  exact ⟨ret_b HR.out.symm,HB.out⟩
theorem alone4_any (x:Opp) (q:Option Addr) (c:Nat) (w:World) (ha:Pa w x q c):Calls Tryz.prog 165 #[.agg #[.bool true,.bool false,.bool false,.bool false,.bool false,.bool true],.agg (opA x q c)] w fun e w'=>e=.returned (.bool (aloneO ⟨true,false,false,false,false,true⟩ x))∧Below w.heap.size w w':=by
 obtain ⟨HP,HX,HA,HB⟩:=fit_start w ⟨true,false,false,false,false,true⟩ #[.bool true,.bool false,.bool false,.bool false,.bool false,.bool true] rfl x q c ha
 by_cases h_rt:x.rt=0
 ·have z_rt:(x.rt == 0)=true:=by simpa using h_rt
  by_cases h_rr:x.rr=0
  ·have z_rr:(x.rr == 0)=true:=by simpa using h_rr
   by_cases h_key:x.key=⟨#[]⟩
   ·have z_key:=key_eq h_key
    by_cases h_path:x.path.length=0
    ·have z_path:((x.path.length:Int) == 0)=true:=by rw [h_path]; rfl
     have y_path:(x.path.length == 0)=true:=by rw [h_path]; rfl
     by_cases h_p:x.p=0
     ·have z_p:(x.p == 0)=true:=by simpa using h_p
      by_cases h_vk:x.vk=0
      ·have z_vk:(x.vk == 0)=true:=by simpa using h_vk
       by_cases h_vn:x.vn=0
       ·have z_vn:(x.vn == 0)=true:=by simpa using h_vn
        by_cases h_vt:x.vt=⟨#[]⟩
        ·have z_vt:=vt_eq h_vt
         have HR:=Hi (show aloneO ⟨true,false,false,false,false,true⟩ x=true by simp [aloneO,isZ,isV,z_rt,z_rr,h_key,y_path,z_p,z_vk,z_vn,h_vt])
         clear h_rt
         clear h_rr
         clear h_key
         clear h_path
         clear h_p
         clear h_vk
         clear h_vn
         clear h_vt
         obtain ⟨p0,p1,p2,p3,p4,p5⟩:=HP.out.cells
         obtain ⟨x0,x1,x2,x3,x4,x5,x6,x7,x8,x9,x10,x11⟩:=HX.out.cells
         dsimp only at p0 p1 p2 p3 p4 p5
         go_enter Tryz.func165,Tryz.ntmps165
         simp only [List.append]
         go_wp2
         go_ret
         exact ⟨ret_b HR.out.symm,HB.out⟩
        ·have z_vt:x.vt.toList.isEmpty=false:=str_ne h_vt
         have HR:=Hi (show aloneO ⟨true,false,false,false,false,true⟩ x=false by simp [aloneO,isZ,isV,z_rt,z_rr,h_key,y_path,z_p,z_vk,z_vn,h_vt])
         clear h_rt
         clear h_rr
         clear h_key
         clear h_path
         clear h_p
         clear h_vk
         clear h_vn
         clear h_vt
         obtain ⟨p0,p1,p2,p3,p4,p5⟩:=HP.out.cells
         obtain ⟨x0,x1,x2,x3,x4,x5,x6,x7,x8,x9,x10,x11⟩:=HX.out.cells
         dsimp only at p0 p1 p2 p3 p4 p5
         go_enter Tryz.func165,Tryz.ntmps165
         simp only [List.append]
         go_wp2
         go_ret
         exact ⟨ret_b HR.out.symm,HB.out⟩
       ·have z_vn:(x.vn == 0)=false:=by simpa using h_vn
        have HR:=Hi (show aloneO ⟨true,false,false,false,false,true⟩ x=false by simp [aloneO,isZ,isV,z_rt,z_rr,h_key,y_path,z_p,z_vk,z_vn])
        clear h_rt
        clear h_rr
        clear h_key
        clear h_path
        clear h_p
        clear h_vk
        clear h_vn
        obtain ⟨p0,p1,p2,p3,p4,p5⟩:=HP.out.cells
        obtain ⟨x0,x1,x2,x3,x4,x5,x6,x7,x8,x9,x10,x11⟩:=HX.out.cells
        dsimp only at p0 p1 p2 p3 p4 p5
        go_enter Tryz.func165,Tryz.ntmps165
        simp only [List.append]
        go_wp2
        go_ret
        exact ⟨ret_b HR.out.symm,HB.out⟩
      ·have z_vk:(x.vk == 0)=false:=by simpa using h_vk
       have HR:=Hi (show aloneO ⟨true,false,false,false,false,true⟩ x=false by simp [aloneO,isZ,isV,z_rt,z_rr,h_key,y_path,z_p,z_vk])
       clear h_rt
       clear h_rr
       clear h_key
       clear h_path
       clear h_p
       clear h_vk
       obtain ⟨p0,p1,p2,p3,p4,p5⟩:=HP.out.cells
       obtain ⟨x0,x1,x2,x3,x4,x5,x6,x7,x8,x9,x10,x11⟩:=HX.out.cells
       dsimp only at p0 p1 p2 p3 p4 p5
       go_enter Tryz.func165,Tryz.ntmps165
       simp only [List.append]
       go_wp2
       go_ret
       exact ⟨ret_b HR.out.symm,HB.out⟩
     ·have z_p:(x.p == 0)=false:=by simpa using h_p
      have HR:=Hi (show aloneO ⟨true,false,false,false,false,true⟩ x=false by simp [aloneO,isZ,isV,z_rt,z_rr,h_key,y_path,z_p])
      clear h_rt
      clear h_rr
      clear h_key
      clear h_path
      clear h_p
      obtain ⟨p0,p1,p2,p3,p4,p5⟩:=HP.out.cells
      obtain ⟨x0,x1,x2,x3,x4,x5,x6,x7,x8,x9,x10,x11⟩:=HX.out.cells
      dsimp only at p0 p1 p2 p3 p4 p5
      go_enter Tryz.func165,Tryz.ntmps165
      simp only [List.append]
      go_wp2
      go_ret
      exact ⟨ret_b HR.out.symm,HB.out⟩
    ·have z_path:((x.path.length:Int) == 0)=false:=by rw [beq_eq_false_iff_ne]; omega
     have y_path:(x.path.length == 0)=false:=by rw [beq_eq_false_iff_ne]; exact h_path
     have HR:=Hi (show aloneO ⟨true,false,false,false,false,true⟩ x=false by simp [aloneO,isZ,isV,z_rt,z_rr,h_key,y_path])
     clear h_rt
     clear h_rr
     clear h_key
     clear h_path
     obtain ⟨p0,p1,p2,p3,p4,p5⟩:=HP.out.cells
     obtain ⟨x0,x1,x2,x3,x4,x5,x6,x7,x8,x9,x10,x11⟩:=HX.out.cells
     dsimp only at p0 p1 p2 p3 p4 p5
     go_enter Tryz.func165,Tryz.ntmps165
     simp only [List.append]
     go_wp2
     go_ret
     exact ⟨ret_b HR.out.symm,HB.out⟩
   ·have z_key:x.key.toList.isEmpty=false:=str_ne h_key
    have HR:=Hi (show aloneO ⟨true,false,false,false,false,true⟩ x=false by simp [aloneO,isZ,isV,z_rt,z_rr,h_key])
    clear h_rt
    clear h_rr
    clear h_key
    obtain ⟨p0,p1,p2,p3,p4,p5⟩:=HP.out.cells
    obtain ⟨x0,x1,x2,x3,x4,x5,x6,x7,x8,x9,x10,x11⟩:=HX.out.cells
    dsimp only at p0 p1 p2 p3 p4 p5
    go_enter Tryz.func165,Tryz.ntmps165
    simp only [List.append]
    go_wp2
    go_ret
    exact ⟨ret_b HR.out.symm,HB.out⟩
  ·have z_rr:(x.rr == 0)=false:=by simpa using h_rr
   have HR:=Hi (show aloneO ⟨true,false,false,false,false,true⟩ x=false by simp [aloneO,isZ,isV,z_rt,z_rr])
   clear h_rt
   clear h_rr
   obtain ⟨p0,p1,p2,p3,p4,p5⟩:=HP.out.cells
   obtain ⟨x0,x1,x2,x3,x4,x5,x6,x7,x8,x9,x10,x11⟩:=HX.out.cells
   dsimp only at p0 p1 p2 p3 p4 p5
   go_enter Tryz.func165,Tryz.ntmps165
   simp only [List.append]
   go_wp2
   go_ret
   exact ⟨ret_b HR.out.symm,HB.out⟩
 ·have z_rt:(x.rt == 0)=false:=by simpa using h_rt
  have HR:=Hi (show aloneO ⟨true,false,false,false,false,true⟩ x=false by simp [aloneO,isZ,isV,z_rt])
  clear h_rt
  obtain ⟨p0,p1,p2,p3,p4,p5⟩:=HP.out.cells
  obtain ⟨x0,x1,x2,x3,x4,x5,x6,x7,x8,x9,x10,x11⟩:=HX.out.cells
  dsimp only at p0 p1 p2 p3 p4 p5
  go_enter Tryz.func165,Tryz.ntmps165
  simp only [List.append]
  go_wp2
  go_ret
  exact ⟨ret_b HR.out.symm,HB.out⟩
theorem alone5_any (x:Opp) (q:Option Addr) (c:Nat) (w:World) (ha:Pa w x q c):Calls Tryz.prog 165 #[.agg #[.bool true,.bool false,.bool true,.bool false,.bool false,.bool false],.agg (opA x q c)] w fun e w'=>e=.returned (.bool (aloneO ⟨true,false,true,false,false,false⟩ x))∧Below w.heap.size w w':=by
 obtain ⟨HP,HX,HA,HB⟩:=fit_start w ⟨true,false,true,false,false,false⟩ #[.bool true,.bool false,.bool true,.bool false,.bool false,.bool false] rfl x q c ha
 by_cases h_key:x.key=⟨#[]⟩
 ·have z_key:=key_eq h_key
  by_cases h_path:x.path.length=0
  ·have z_path:((x.path.length:Int) == 0)=true:=by rw [h_path]; rfl
   have y_path:(x.path.length == 0)=true:=by rw [h_path]; rfl
   by_cases h_p:x.p=0
   ·have z_p:(x.p == 0)=true:=by simpa using h_p
    by_cases h_vk:x.vk=0
    ·have z_vk:(x.vk == 0)=true:=by simpa using h_vk
     by_cases h_vn:x.vn=0
     ·have z_vn:(x.vn == 0)=true:=by simpa using h_vn
      by_cases h_vt:x.vt=⟨#[]⟩
      ·have z_vt:=vt_eq h_vt
       have HR:=Hi (show aloneO ⟨true,false,true,false,false,false⟩ x=(!x.on) by simp [aloneO,isZ,isV,h_key,y_path,z_p,z_vk,z_vn,h_vt])
       clear h_key
       clear h_path
       clear h_p
       clear h_vk
       clear h_vn
       clear h_vt
       obtain ⟨p0,p1,p2,p3,p4,p5⟩:=HP.out.cells
       obtain ⟨x0,x1,x2,x3,x4,x5,x6,x7,x8,x9,x10,x11⟩:=HX.out.cells
       dsimp only at p0 p1 p2 p3 p4 p5
       go_enter Tryz.func165,Tryz.ntmps165
       simp only [List.append]
       go_wp2
       go_ret
       exact ⟨ret_b HR.out.symm,HB.out⟩
      ·have z_vt:x.vt.toList.isEmpty=false:=str_ne h_vt
       have HR:=Hi (show aloneO ⟨true,false,true,false,false,false⟩ x=false by simp [aloneO,isZ,isV,h_key,y_path,z_p,z_vk,z_vn,h_vt])
       clear h_key
       clear h_path
       clear h_p
       clear h_vk
       clear h_vn
       clear h_vt
       obtain ⟨p0,p1,p2,p3,p4,p5⟩:=HP.out.cells
       obtain ⟨x0,x1,x2,x3,x4,x5,x6,x7,x8,x9,x10,x11⟩:=HX.out.cells
       dsimp only at p0 p1 p2 p3 p4 p5
       go_enter Tryz.func165,Tryz.ntmps165
       simp only [List.append]
       go_wp2
       go_ret
       exact ⟨ret_b HR.out.symm,HB.out⟩
     ·have z_vn:(x.vn == 0)=false:=by simpa using h_vn
      have HR:=Hi (show aloneO ⟨true,false,true,false,false,false⟩ x=false by simp [aloneO,isZ,isV,h_key,y_path,z_p,z_vk,z_vn])
      clear h_key
      clear h_path
      clear h_p
      clear h_vk
      clear h_vn
      obtain ⟨p0,p1,p2,p3,p4,p5⟩:=HP.out.cells
      obtain ⟨x0,x1,x2,x3,x4,x5,x6,x7,x8,x9,x10,x11⟩:=HX.out.cells
      dsimp only at p0 p1 p2 p3 p4 p5
      go_enter Tryz.func165,Tryz.ntmps165
      simp only [List.append]
      go_wp2
      go_ret
      exact ⟨ret_b HR.out.symm,HB.out⟩
    ·have z_vk:(x.vk == 0)=false:=by simpa using h_vk
     have HR:=Hi (show aloneO ⟨true,false,true,false,false,false⟩ x=false by simp [aloneO,isZ,isV,h_key,y_path,z_p,z_vk])
     clear h_key
     clear h_path
     clear h_p
     clear h_vk
     obtain ⟨p0,p1,p2,p3,p4,p5⟩:=HP.out.cells
     obtain ⟨x0,x1,x2,x3,x4,x5,x6,x7,x8,x9,x10,x11⟩:=HX.out.cells
     dsimp only at p0 p1 p2 p3 p4 p5
     go_enter Tryz.func165,Tryz.ntmps165
     simp only [List.append]
     go_wp2
     go_ret
     exact ⟨ret_b HR.out.symm,HB.out⟩
   ·have z_p:(x.p == 0)=false:=by simpa using h_p
    have HR:=Hi (show aloneO ⟨true,false,true,false,false,false⟩ x=false by simp [aloneO,isZ,isV,h_key,y_path,z_p])
    clear h_key
    clear h_path
    clear h_p
    obtain ⟨p0,p1,p2,p3,p4,p5⟩:=HP.out.cells
    obtain ⟨x0,x1,x2,x3,x4,x5,x6,x7,x8,x9,x10,x11⟩:=HX.out.cells
    dsimp only at p0 p1 p2 p3 p4 p5
    go_enter Tryz.func165,Tryz.ntmps165
    simp only [List.append]
    go_wp2
    go_ret
    exact ⟨ret_b HR.out.symm,HB.out⟩
  ·have z_path:((x.path.length:Int) == 0)=false:=by rw [beq_eq_false_iff_ne]; omega
   have y_path:(x.path.length == 0)=false:=by rw [beq_eq_false_iff_ne]; exact h_path
   have HR:=Hi (show aloneO ⟨true,false,true,false,false,false⟩ x=false by simp [aloneO,isZ,isV,h_key,y_path])
   clear h_key
   clear h_path
   obtain ⟨p0,p1,p2,p3,p4,p5⟩:=HP.out.cells
   obtain ⟨x0,x1,x2,x3,x4,x5,x6,x7,x8,x9,x10,x11⟩:=HX.out.cells
   dsimp only at p0 p1 p2 p3 p4 p5
   go_enter Tryz.func165,Tryz.ntmps165
   simp only [List.append]
   go_wp2
   go_ret
   exact ⟨ret_b HR.out.symm,HB.out⟩
 ·have z_key:x.key.toList.isEmpty=false:=str_ne h_key
  have HR:=Hi (show aloneO ⟨true,false,true,false,false,false⟩ x=false by simp [aloneO,isZ,isV,h_key])
  clear h_key
  obtain ⟨p0,p1,p2,p3,p4,p5⟩:=HP.out.cells
  obtain ⟨x0,x1,x2,x3,x4,x5,x6,x7,x8,x9,x10,x11⟩:=HX.out.cells
  dsimp only at p0 p1 p2 p3 p4 p5
  go_enter Tryz.func165,Tryz.ntmps165
  simp only [List.append]
  go_wp2
  go_ret
  exact ⟨ret_b HR.out.symm,HB.out⟩
theorem alone6_any (x:Opp) (q:Option Addr) (c:Nat) (w:World) (ha:Pa w x q c):Calls Tryz.prog 165 #[.agg #[.bool true,.bool false,.bool false,.bool true,.bool true,.bool false],.agg (opA x q c)] w fun e w'=>e=.returned (.bool (aloneO ⟨true,false,false,true,true,false⟩ x))∧Below w.heap.size w w':=by
 obtain ⟨HP,HX,HA,HB⟩:=fit_start w ⟨true,false,false,true,true,false⟩ #[.bool true,.bool false,.bool false,.bool true,.bool true,.bool false] rfl x q c ha
 by_cases h_rt:x.rt=0
 ·have z_rt:(x.rt == 0)=true:=by simpa using h_rt
  by_cases h_rr:x.rr=0
  ·have z_rr:(x.rr == 0)=true:=by simpa using h_rr
   by_cases h_key:x.key=⟨#[]⟩
   ·have z_key:=key_eq h_key
    have HR:=Hi (show aloneO ⟨true,false,false,true,true,false⟩ x=(!x.on) by simp [aloneO,isZ,isV,z_rt,z_rr,h_key])
    clear h_rt
    clear h_rr
    clear h_key
    obtain ⟨p0,p1,p2,p3,p4,p5⟩:=HP.out.cells
    obtain ⟨x0,x1,x2,x3,x4,x5,x6,x7,x8,x9,x10,x11⟩:=HX.out.cells
    dsimp only at p0 p1 p2 p3 p4 p5
    go_enter Tryz.func165,Tryz.ntmps165
    simp only [List.append]
    go_wp2
    go_ret
    exact ⟨ret_b HR.out.symm,HB.out⟩
   ·have z_key:x.key.toList.isEmpty=false:=str_ne h_key
    have HR:=Hi (show aloneO ⟨true,false,false,true,true,false⟩ x=false by simp [aloneO,isZ,isV,z_rt,z_rr,h_key])
    clear h_rt
    clear h_rr
    clear h_key
    obtain ⟨p0,p1,p2,p3,p4,p5⟩:=HP.out.cells
    obtain ⟨x0,x1,x2,x3,x4,x5,x6,x7,x8,x9,x10,x11⟩:=HX.out.cells
    dsimp only at p0 p1 p2 p3 p4 p5
    go_enter Tryz.func165,Tryz.ntmps165
    simp only [List.append]
    go_wp2
    go_ret
    exact ⟨ret_b HR.out.symm,HB.out⟩
  ·have z_rr:(x.rr == 0)=false:=by simpa using h_rr
   have HR:=Hi (show aloneO ⟨true,false,false,true,true,false⟩ x=false by simp [aloneO,isZ,isV,z_rt,z_rr])
   clear h_rt
   clear h_rr
   obtain ⟨p0,p1,p2,p3,p4,p5⟩:=HP.out.cells
   obtain ⟨x0,x1,x2,x3,x4,x5,x6,x7,x8,x9,x10,x11⟩:=HX.out.cells
   dsimp only at p0 p1 p2 p3 p4 p5
   go_enter Tryz.func165,Tryz.ntmps165
   simp only [List.append]
   go_wp2
   go_ret
   exact ⟨ret_b HR.out.symm,HB.out⟩
 ·have z_rt:(x.rt == 0)=false:=by simpa using h_rt
  have HR:=Hi (show aloneO ⟨true,false,false,true,true,false⟩ x=false by simp [aloneO,isZ,isV,z_rt])
  clear h_rt
  obtain ⟨p0,p1,p2,p3,p4,p5⟩:=HP.out.cells
  obtain ⟨x0,x1,x2,x3,x4,x5,x6,x7,x8,x9,x10,x11⟩:=HX.out.cells
  dsimp only at p0 p1 p2 p3 p4 p5
  go_enter Tryz.func165,Tryz.ntmps165
  simp only [List.append]
  go_wp2
  go_ret
  exact ⟨ret_b HR.out.symm,HB.out⟩
open Go.RowKit
theorem named_end {w:World} {p q:Prt} (hp:q=p) (tmps:Array Value) (h:tmps.getD 2 undef=.pointer (some ⟨w.heap.size,0,none⟩)) :
  bodyPost Tryz.prog Tryz.f163 (fun e w'=>e=.returned (.agg (prA q))∧Below w.heap.size w w') Exit.ret { tmps:=tmps,defers:=[] } (w.alloc (.cells (prA p) 244)):=by
 subst hp
 exact bodyPost_ret (results_cell_row rfl tmps _ w.heap.size 244 (prA q) (0,0) _ h (heap_alloc_new w _) Tryz.underlying244 rfl (by kernel_rfl)) rfl ⟨rfl,(Below.refl _ _).alloc (Nat.le_refl _) _⟩
theorem named_any (k:Int) (w:World):Calls Tryz.prog 163 #[.int .i64 k] w fun e w'=>e=.returned (.agg (prA (prt k)))∧Below w.heap.size w w':=by
 by_cases h1:k=1
 ·subst h1
  go_enter Tryz.func163,Tryz.ntmps163
  go_wp2
  exact named_end (p:=prt 1) rfl _ rfl
 by_cases h2:k=2
 ·subst h2
  go_enter Tryz.func163,Tryz.ntmps163
  go_wp2
  exact named_end (p:=prt 2) rfl _ rfl
 by_cases h3:k=3
 ·subst h3
  go_enter Tryz.func163,Tryz.ntmps163
  go_wp2
  exact named_end (p:=prt 3) rfl _ rfl
 by_cases h4:k=4
 ·subst h4
  go_enter Tryz.func163,Tryz.ntmps163
  go_wp2
  exact named_end (p:=prt 4) rfl _ rfl
 by_cases h5:k=5
 ·subst h5
  go_enter Tryz.func163,Tryz.ntmps163
  go_wp2
  exact named_end (p:=prt 5) rfl _ rfl
 by_cases h6:k=6
 ·subst h6
  go_enter Tryz.func163,Tryz.ntmps163
  go_wp2
  exact named_end (p:=prt 6) rfl _ rfl
 have HP:=Hi (prt_none h1 h2 h3 h4 h5 h6)
 go_enter Tryz.func163,Tryz.ntmps163
 go_wp2
 exact named_end HP.out _ rfl
end Go.Proofs.YthfhefdfehlbkaaGreat
