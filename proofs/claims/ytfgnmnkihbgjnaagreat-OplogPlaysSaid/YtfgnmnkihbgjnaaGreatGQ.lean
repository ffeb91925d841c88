/-
  WHAT A LOG TELLS: a new one; Vector, Total, Waiting, Time.
  No conditions but sizes.
  WHAT A VECTOR LACKS: Since.
  No conditions but sizes.
  A ROW OF ENTRIES (an op, its stamp) that grows; the entries of a replica.
  No conditions but sizes.
  ROWS OF ENTRIES THAT ARE ONLY READ; the tail of one; pushHead.
  No conditions but sizes.
  ROWS PUT TOGETHER, PLAINLY: the least of the rows' heads comes out, again and again.
  No conditions.
  WHAT Entries CARRIES: the block of rows, the queue of heads, what has come out.
  No conditions.
  ALL ENTRIES: Entries.
  No conditions but sizes.
-/
import Derived.Test.YtfgnmnkihbgjnaaGreatSh
import Derived.Test.YtfgnmnkihbgjnaaGreatGP
import Derived.Test.YtfgnmnkihbgjnaaGreatHE
set_option maxRecDepth 100000
set_option maxHeartbeats 16000000
namespace Go.Proofs.YtfgnmnkihbgjnaaGreat
open Go.RowKit
theorem run_build_st (w:World) (M:Nat):(Instr.build 76 #[(1,.map (some M))]).run Tryz.prog w=.ok (.agg (stA (fun _=>.slice none 0 0) M)) w:=by kernel_rfl
def Sm.zero:Sm:=⟨fun _=>none,fun _=>0,fun _=>[],[]⟩
theorem Sm.zero_lg:Sm.zero.lg=Lg.zero:=rfl
def Made (w:World) (e:Ending) (w':World):Prop :=
 ∃ l S M m,e=.returned (.pointer (some ⟨l,0,none⟩))∧Lo w' l S M m (fun k=>w.heap.size≤k∧k<w'.heap.size∧k≠l)∧m.lg=Lg.zero∧w.heap.size≤l∧l<w'.heap.size∧Below w.heap.size w w'
theorem made_of (w:World) (T U:TypeId) (W:World) (hW:W=((w.alloc (.map #[] 0)).alloc (.cells (stA (fun _=>.slice none 0 0) w.heap.size) T)).alloc (.cells #[.pointer (some ⟨w.heap.size+1,0,none⟩)] U)) :
  Made w (.returned (.pointer (some ⟨w.heap.size+2,0,none⟩))) W:=by
 have h1:∀ (w:World) (o:Obj),Below w.heap.size w (w.alloc o):=fun w o=>(Below.refl _ _).alloc (Nat.le_refl _) _
 have e1:(w.alloc (.map #[] 0)).heap.size=w.heap.size+1:=by simp
 have e2:((w.alloc (.map #[] 0)).alloc (.cells (stA (fun _=>.slice none 0 0) w.heap.size) T)).heap.size=w.heap.size+2:=by simp
 have hM:=WMap.made w
 have hS:=AgAt.new (w.alloc (.map #[] 0)) (stA (fun _=>.slice none 0 0) w.heap.size) T
 have hl:=AgAt.new ((w.alloc (.map #[] 0)).alloc (.cells (stA (fun _=>.slice none 0 0) w.heap.size) T)) #[.pointer (some ⟨w.heap.size+1,0,none⟩)] U
 rw [e1] at hS
 rw [e2,← hW] at hl
 have b3:Below (w.heap.size+2) ((w.alloc (.map #[] 0)).alloc (.cells (stA (fun _=>.slice none 0 0) w.heap.size) T)) W:=by rw [hW,← e2]; exact h1 _ _
 have b2:Below (w.heap.size+1) (w.alloc (.map #[] 0)) W:=by
  have:=h1 (w.alloc (.map #[] 0)) (.cells (stA (fun _=>.slice none 0 0) w.heap.size) T)
  rw [e1] at this
  exact this.trans (b3.mono (by omega))
 have hz:W.heap.size=w.heap.size+3:=by rw [hW]; simp
 have hM':WMap W w.heap.size []:=hM.block (b2.block _ (by omega))
 have hS':AgAt W (w.heap.size+1) (stA (fun _=>.slice none 0 0) w.heap.size):=hS.block (b3.block _ (by omega))
 have hn:∀ r,(Sm.zero.v r).ownBlock=none:=fun r=>rfl
 refine ⟨w.heap.size+2,w.heap.size+1,w.heap.size,Sm.zero,rfl,⟨⟨hS',hM',fun r hr=>World.ownsRow_nil _ _ _ _,fun r hr e he=>(by cases he),fun e he=>(by cases he),fun r r' b _ _ h=>?_,fun r b _ h=>?_,?_,?_,?_,fun k hk=>hk.2.1⟩,?_,hl,fun h=>h.2.2 rfl⟩,rfl,by omega,by omega,?_⟩
 ·rw [hn] at h; cases h
 ·rw [hn] at h; cases h
 ·exact ⟨by omega,by omega,by omega⟩
 ·exact ⟨by omega,by omega,by omega⟩
 ·omega
 ·rw [Sm.zero_lg]; exact LgOk.zero
 ·exact (h1 w _).trans (b2.mono (by omega))
theorem lnew_any (w:World):Calls Tryz.prog 7 #[] w (Made w):=by
 have hmm:=@run_makeMap Tryz.prog
 have hbs:=run_build_st
 have HE:=Hi (made_of w 76 78 _ rfl)
 go_enter Tryz.func7,Tryz.ntmps7
 go_wp2
 go_ret
 exact HE.out
theorem lvector_any {l S M:Nat} {m:Sm} {F:Nat→Prop} (w:World) (h:Lo w l S M m F) :
  Calls Tryz.prog 21 #[.pointer (some ⟨l,0,none⟩)] w fun e w'=>e=.returned (.agg (vecA (vecL9 m.lg)))∧Below w.heap.size w w':=by
 have hb:=(Below.refl w.heap.size w).alloc (Nat.le_refl _) (.cells (vecA fun _=>0) 64)
 have HV:=Hi (VAt.new w (fun _=>0) 64)
 have y0:=(h.kept hb).cell
 have HO:=Hi (lours_yes y0)
 have HC:=Hi (svec_any _ (h.kept hb).st fun r hr=>Sm.len h.ok hr)
 rw [Sm.vec]
 have HB:=Hi hb
 clear h hb
 go_enter Tryz.func21,Tryz.ntmps21
 go_wp2_with fail
 refine HO.out.mono ?_
 rintro e w1 ⟨rfl,rfl⟩
 go_wp2_with fail
 refine HC.out.mono ?_
 rintro e w1 ⟨rfl,hb1⟩
 replace HV:=Hi (HV.out.kept hb1)
 replace HB:=Hi (HB.out.trans (hb1.mono HB.out.size))
 clear hb1 y0
 go_wp2_with (refine wpList_store_vec vtP rfl _ _ rfl _ rfl _ _ HV.out rfl ?_; intro w2 hv2 _ _ hb2)
 exact bodyPost_ret (results_vec vtP _ rfl hv2 rfl) rfl ⟨rfl,hb2 _ _ HB.out (Nat.le_refl _)⟩
theorem ltotal_any {l S M:Nat} {m:Sm} {F:Nat→Prop} (w:World) (h:Lo w l S M m F) :
  Calls Tryz.prog 14 #[.pointer (some ⟨l,0,none⟩)] w fun e w'=>e=.returned (.int .i64 (totL m.lg))∧Below w.heap.size w w':=ltotal_of _ _ w (lvector_any w h)
theorem lwaiting_any {l S M:Nat} {m:Sm} {F:Nat→Prop} (w:World) (h:Lo w l S M m F) :
  Calls Tryz.prog 23 #[.pointer (some ⟨l,0,none⟩)] w fun e w'=>e=.returned (.int .i64 (m.lg.wait.length:Int))∧w=w':=by
 have y0:=h.cell
 have HO:=Hi (lours_yes y0)
 have y16:=h.st.mcell
 have hln:=h.st.map.len 3
 rw [show m.lg.wait.length=m.we.length from by simp [Sm.lg]]
 clear h
 go_enter Tryz.func23,Tryz.ntmps23
 go_wp2_with fail
 refine HO.out.mono ?_
 rintro e w1 ⟨rfl,rfl⟩
 go_wp2
 go_ret
 exact ⟨rfl,rfl⟩
theorem wp_load_ag {t:TypeId} {n:Nat} {A:Array Value} {w:World} (V:AgT t n) {o:Oper} {a:Act} {K:Act→World→Prop} {Q:Exit→Act→World→Prop} (y:Operand) (ho:o.op=.load t y)
  (b:Nat) (hx:a.eval y=.pointer (some ⟨b,0,none⟩)) (hn:A.size=n) (hv:AgAt w b A) (h:K (a.put o.dst (.agg A)) w):Oper.wp Tryz.prog o a w K Q:=by
 unfold Oper.wp
 rw [exec_load_ag V ho hx hn hv]
 exact h
theorem run_build_st2 (w:World) (a b c d:Int):(Instr.buildSlice 51 2 #[(0,.agg #[.int .i64 a,.int .i64 b]),(1,.agg #[.int .i64 c,.int .i64 d])]).run Tryz.prog w=.ok (.slice (some ⟨w.heap.size,0,none⟩) 2 2) (w.alloc (.cells #[.int .i64 a,.int .i64 b,.int .i64 c,.int .i64 d] 50)):=by kernel_rfl
theorem wp_build_st2 {w:World} {o:Oper} {a:Act} {K:Act→World→Prop} {Q:Exit→Act→World→Prop} (x y:Operand) (ho:o.op=.buildSlice 51 2 #[(0,x),(1,y)]) (p q r s:Int) (hx:a.eval x=.agg #[.int .i64 p,.int .i64 q]) (hy:a.eval y=.agg #[.int .i64 r,.int .i64 s])
  (h:K (a.put o.dst (.slice (some ⟨w.heap.size,0,none⟩) 2 2)) (w.alloc (.cells #[.int .i64 p,.int .i64 q,.int .i64 r,.int .i64 s] 50))):Oper.wp Tryz.prog o a w K Q:=by
 unfold Oper.wp execOp
 simp only [ho,Sem.run_bind,Sem.run_pure,Result.andThen_ok,List.map_toArray,List.map_cons,List.map_nil,hx,hy,run_build_st2]
 exact h
theorem stamps_two (w:World) (s u:Qm.St) (T:TypeId):Stamps (w.alloc (.cells #[.int .i64 s.1,.int .i64 s.2,.int .i64 u.1,.int .i64 u.2] T)) (some ⟨w.heap.size,0,none⟩) [s,u]:=fun _=>⟨_,0,rfl,fun i hi=>by
 have hi':i=0∨i=1:=by simp at hi; omega
 rcases hi' with rfl | rfl
 ·exact ⟨by rw [World.cell?_alloc_at _ _ _ _ rfl]; rfl,by rw [World.cell?_alloc_at _ _ _ _ rfl]; rfl⟩
 ·exact ⟨by rw [World.cell?_alloc_at _ _ _ _ rfl]; rfl,by rw [World.cell?_alloc_at _ _ _ _ rfl]; rfl⟩⟩
def tmS (L:Lg):Nat→Qm.St
 | 0=>(0,0)
 | k+1=>maxOf [tmS L k,lastR L k]
theorem ltime_any {l S M:Nat} {m:Sm} {F:Nat→Prop} (w:World) (h:Lo w l S M m F) :
  Calls Tryz.prog 24 #[.pointer (some ⟨l,0,none⟩)] w fun e w'=>e=.returned (.int .i64 (tmS m.lg 16).1)∧Below w.heap.size w w':=by
 have HO:=Hi (lours_yes h.cell)
 have HL:=Hi h
 have hb:=(Below.refl w.heap.size w).alloc (Nat.le_refl _) (.cells #[.int .i64 0,.int .i64 0] 50)
 have HA0:=Hi (AgAt.new w #[.int .i64 0,.int .i64 0] 50)
 have HB0:=Hi hb
 clear h hb
 go_enter Tryz.func24,Tryz.ntmps24
 go_wp2_with fail
 refine HO.out.mono ?_
 rintro e w1 ⟨rfl,rfl⟩
 go_wp2_with fail
 go_loopw [8] (fun i wr=>∃ k:Nat,k≤16∧i=.int .i64 (k:Int)∧AgAt wr w.heap.size #[.int .i64 (tmS m.lg k).1,.int .i64 (tmS m.lg k).2]∧Below w.heap.size w wr) (fun i _=>16 - (intOf i).toNat)
 case atStart=>exact ⟨0,by omega,rfl,HA0.out,HB0.out⟩
 case round =>
  clear HA0 HB0
  obtain ⟨k,hk,rfl,ha,hbw⟩:=hrel
  have HA:=Hi ha
  have HB:=Hi hbw
  clear ha hbw
  by_cases hlt:k<16
  ·have HEND:=Hi (fun W (hW:Below w.heap.size w W)=>end_any k W (HL.out.kept hW).st HL.out.ok hlt)
   have hmk:maxOf [tmS m.lg k,lastR m.lg k]=tmS m.lg (k+1):=rfl
   generalize tmS m.lg k=s at *
   go_upto_region 7 with fail
   replace HA:=Hi (show AgAt wr.drew w.heap.size #[.int .i64 s.1,.int .i64 s.2] from HA.out)
   refine wp_region_held_drew (S:=fun W=>Below w.heap.size w W) (by kernel_rfl) HB.out.drew (fun hS=>?_)
   generalize wr.drew=wd at *
   refine tX 1 rfl hS ?_
   refine tX 2 rfl hS ?_
   refine tX 3 rfl hS ?_
   refine tK 4 (v:=?_) rfl ?_ hS ?_
   rotate_left
   ·intro W hSW
    have y0:=(HL.out.kept hSW).cell
    go_simp
    all_goals with_reducible rfl
   go_simp
   refine tX 5 rfl hS ?_
   go_simp
   refine wpAnyH_ready (rs:=[0,6]) (by kernel_rfl) (by simp) ?_
   refine AllReadyH.cons rfl (fun K hK=>?_) (AllReadyH.cons rfl (fun K hK=>?_) AllReadyH.nil)
   ·refine step_of (by kernel_rfl) ?_
    refine wp_load_ag (A:=#[.int .i64 s.1,.int .i64 s.2]) stT _ rfl _ rfl rfl HA.out ?_
    refine hK.out _ _ hS (fun hS=>?_)
    clear hK K
    refine rD 6 rfl (fun K hK=>?_)
    go_simp
    go_wp2_with ((go_at_call 57; refine (HEND.out _ hS).mono ?_; rintro e w5 ⟨rfl,hb5⟩))
    replace HA:=Hi (AgAt.kept HA.out hb5)
    refine hK.out _ _ (hS.trans (hb5.mono hS.size)) (fun hS=>?_)
    clear hK K hb5
    refine rD 7 rfl (fun K hK=>?_)
    have hb6:=(Below.refl w5.heap.size w5).alloc (Nat.le_refl _) (.cells #[.int .i64 s.1,.int .i64 s.2,.int .i64 (lastR m.lg k).1,.int .i64 (lastR m.lg k).2] 50)
    have HST:=Hi (stamps_two w5 s (lastR m.lg k) 50)
    replace HA:=Hi (AgAt.kept HA.out hb6)
    refine step_of (by kernel_rfl) ?_
    refine wp_build_st2 _ _ rfl s.1 s.2 (lastR m.lg k).1 (lastR m.lg k).2 rfl rfl ?_
    refine hK.out _ _ (hS.trans (hb6.mono hS.size)) (fun hS=>?_)
    clear hK K hb6
    generalize w5.alloc (.cells #[.int .i64 s.1,.int .i64 s.2,.int .i64 (lastR m.lg k).1,.int .i64 (lastR m.lg k).2] 50)=w6 at *
    refine rD 8 rfl (fun K hK=>?_)
    go_simp
    have hmx:=max_any (some ⟨w5.heap.size,0,none⟩) 2 [s,lastR m.lg k] w6 HST.out (by simp)
    go_wp2_with ((go_at_call 56; refine hmx.mono ?_; rintro e w7 ⟨rfl,hb7⟩))
    replace HA:=Hi (AgAt.kept HA.out hb7)
    refine hK.out _ _ (hS.trans (hb7.mono hS.size)) (fun hS=>?_)
    clear hK K hb7 hmx
    refine rD 9 rfl (fun K hK=>?_)
    refine step_of (by kernel_rfl) ?_
    refine wp_store_ag stT _ _ rfl w.heap.size rfl _ HA.out rfl rfl rfl (stA_one _ _) ?_
    intro w8 hv8 hko8 hsz8 hbn8
    have HA8:=Hi hv8
    have hS8:=hbn8 _ _ hS (Nat.le_refl _)
    refine hK.out _ _ hS8 (fun hS=>?_)
    clear hK K hv8 hko8 hsz8 hbn8 hS8
    refine wpAnyH_done (by kernel_rfl) ?_ _
    go_simp
    go_wp2
    go_roundw
    case rel=>exact ⟨k+1,by omega,by go_num,HA8.out,hS⟩
    case measure=>simp [intOf]; omega
   ·go_simp
    go_wp2_with ((go_at_call 57; refine (HEND.out _ hS).mono ?_; rintro e w5 ⟨rfl,hb5⟩))
    replace HA:=Hi (AgAt.kept HA.out hb5)
    refine hK.out _ _ (hS.trans (hb5.mono hS.size)) (fun hS=>?_)
    clear hK K hb5
    refine rD 0 rfl (fun K hK=>?_)
    refine step_of (by kernel_rfl) ?_
    refine wp_load_ag (A:=#[.int .i64 s.1,.int .i64 s.2]) stT _ rfl _ rfl rfl HA.out ?_
    refine hK.out _ _ hS (fun hS=>?_)
    clear hK K
    refine rD 7 rfl (fun K hK=>?_)
    have hb6:=(Below.refl w5.heap.size w5).alloc (Nat.le_refl _) (.cells #[.int .i64 s.1,.int .i64 s.2,.int .i64 (lastR m.lg k).1,.int .i64 (lastR m.lg k).2] 50)
    have HST:=Hi (stamps_two w5 s (lastR m.lg k) 50)
    replace HA:=Hi (AgAt.kept HA.out hb6)
    refine step_of (by kernel_rfl) ?_
    refine wp_build_st2 _ _ rfl s.1 s.2 (lastR m.lg k).1 (lastR m.lg k).2 rfl rfl ?_
    refine hK.out _ _ (hS.trans (hb6.mono hS.size)) (fun hS=>?_)
    clear hK K hb6
    generalize w5.alloc (.cells #[.int .i64 s.1,.int .i64 s.2,.int .i64 (lastR m.lg k).1,.int .i64 (lastR m.lg k).2] 50)=w6 at *
    refine rD 8 rfl (fun K hK=>?_)
    go_simp
    have hmx:=max_any (some ⟨w5.heap.size,0,none⟩) 2 [s,lastR m.lg k] w6 HST.out (by simp)
    go_wp2_with ((go_at_call 56; refine hmx.mono ?_; rintro e w7 ⟨rfl,hb7⟩))
    replace HA:=Hi (AgAt.kept HA.out hb7)
    refine hK.out _ _ (hS.trans (hb7.mono hS.size)) (fun hS=>?_)
    clear hK K hb7 hmx
    refine rD 9 rfl (fun K hK=>?_)
    refine step_of (by kernel_rfl) ?_
    refine wp_store_ag stT _ _ rfl w.heap.size rfl _ HA.out rfl rfl rfl (stA_one _ _) ?_
    intro w8 hv8 hko8 hsz8 hbn8
    have HA8:=Hi hv8
    have hS8:=hbn8 _ _ hS (Nat.le_refl _)
    refine hK.out _ _ hS8 (fun hS=>?_)
    clear hK K hv8 hko8 hsz8 hbn8 hS8
    refine wpAnyH_done (by kernel_rfl) ?_ _
    go_simp
    go_wp2
    go_roundw
    case rel=>exact ⟨k+1,by omega,by go_num,HA8.out,hS⟩
    case measure=>simp [intOf]; omega
  ·obtain rfl:k=16:=by omega
   have y1:=AgAt.cell HA.out 0
   go_wp2
   go_ret
   exact ⟨rfl,HB.out⟩
open Go.RowKit
def preS (L:Lg) (a:Nat→Int) (k:Nat):List Bat:=(List.range k).flatMap fun r=>(L.row r).drop (a r).toNat
def sinceL (L:Lg) (a:Nat→Int) (n:Int):List Bat:=if vRight a=true then (preS L a 16).take n.toNat else []
theorem preS_succ (L:Lg) (a:Nat→Int) (k:Nat):preS L a (k+1)=preS L a k ++ (L.row k).drop (a k).toNat:=by
 unfold preS
 rw [List.range_succ,List.flatMap_append]
 simp
theorem preS_pre (L:Lg) (a:Nat→Int) {k m:Nat} (h:k≤m):∃ t,preS L a m=preS L a k ++ t:=by
 induction m with
 | zero =>
      obtain rfl:k=0:=by omega
      exact ⟨[],by simp⟩
 | succ m ih =>
  by_cases e:k=m+1
  ·exact ⟨[],by rw [e]; simp⟩
  ·obtain ⟨t,ht⟩:=ih (by omega)
   exact ⟨t ++ (L.row m).drop (a m).toNat,by rw [preS_succ,ht,List.append_assoc]⟩
theorem preS_stop {L:Lg} {a:Nat→Int} {n:Int} {k j D:Nat} {pre:List Bat} (hv:vRight a=true) (hk:k<16) (hD:D=min (a k).toNat (L.row k).length) (hp:pre=preS L a k ++ ((L.row k).drop D).take j) (h1:n≤(pre.length:Int)) (h2:(pre.length:Int)≤max n 0):sinceL L a n=pre:=by
 have hDd:(L.row k).drop D=(L.row k).drop (a k).toNat:=by
  rcases Nat.le_total (a k).toNat (L.row k).length with h | h
  ·rw [hD,Nat.min_eq_left h]
  ·rw [hD,Nat.min_eq_right h,List.drop_of_length_le h,List.drop_of_length_le (Nat.le_refl _)]
 obtain ⟨t,ht⟩:=preS_pre L a (k:=k+1) (m:=16) (by omega)
 have hx:preS L a 16=pre ++ (((L.row k).drop D).drop j ++ t):=by
  rw [ht,preS_succ,← hDd,hp]
  simp only [List.append_assoc]
  congr 1
  rw [← List.append_assoc,List.take_append_drop]
 unfold sinceL
 rw [if_pos hv,hx,List.take_append_of_le_length (by omega),List.take_of_length_le (by omega)]
theorem preS_end {L:Lg} {a:Nat→Int} {n:Int} (hv:vRight a=true) (h2:((preS L a 16).length:Int)≤max n 0):sinceL L a n=preS L a 16:=by
 unfold sinceL
 rw [if_pos hv,List.take_of_length_le (by omega)]
theorem sinceL_bad {L:Lg} {a:Nat→Int} {n:Int} (hv:vRight a=false):sinceL L a n=[]:=by unfold sinceL; rw [if_neg (by rw [hv]; simp)]
theorem drop_min {α:Type} (l:List α) (n:Nat):l.drop (min n l.length)=l.drop n:=by
 rcases Nat.le_total n l.length with h | h
 ·rw [Nat.min_eq_left h]
 ·rw [Nat.min_eq_right h,List.drop_of_length_le h,List.drop_of_length_le (Nat.le_refl _)]
theorem BRow.low {B B':Nat} {w:World} {p:Option Addr} {c:Nat} {l:List Be} (h:BRow B w p c l) (hB:B'≤B):BRow B' w p c l :=
 ⟨own_base h.own fun _ _=>Nat.le_trans hB (World.ownsRow.lt h.own _ (by assumption)).1,fun e he=>(h.ops e he).mono fun k _ hk=>⟨Nat.le_trans hB hk.1,hk.2⟩⟩
def Sinced (l:List Bat) (w:World) (e:Ending) (w':World):Prop :=
 ∃ p c lo,e=.returned (.slice p lo.length c)∧lo.map (·.x)=l∧BRow w.heap.size w' p c lo∧Below w.heap.size w w'
theorem lsince_any {l S M:Nat} {m:Sm} {F:Nat→Prop} (a:Nat→Int) (n:Int) (w:World) (h:Lo w l S M m F) :
  Calls Tryz.prog 47 #[.pointer (some ⟨l,0,none⟩),.agg (vecA a),.int .i64 n] w (Sinced (sinceL m.lg a n) w):=by
 obtain ⟨i0,hi,hz0,hz1,hz2⟩:=info_parts oinfo_bt
 have hb:=(Below.refl w.heap.size w).alloc (Nat.le_refl _) (.cells (vecA a) 64)
 have HV:=Hi (VAt.new w a 64)
 have HL:=Hi (h.kept hb)
 have HO:=Hi (lours_yes HL.out.cell)
 have HB:=Hi hb
 have HR:=Hi (fun W=>vecright_any a W)
 clear h hb
 go_enter Tryz.func47,Tryz.ntmps47
 go_wp2_with fail
 refine HO.out.mono ?_
 rintro e w1 ⟨rfl,rfl⟩
 cases hr:vRight a with
 | false =>
  rw [hr] at HR
  have HE:=Hi (fun W (hW:Below w.heap.size w W)=>show Sinced (sinceL m.lg a n) w (.returned (.slice none 0 0)) W from ⟨none,0,[],rfl,by rw [sinceL_bad hr]; rfl,BRow.nil _ _,hW⟩)
  clear hr
  go_wp2_with (refine wpList_load_vecG vtP (by kernel_rfl) _ rfl _ rfl _ HV.out ?_)
  refine (HR.out _).mono ?_
  rintro e w2 ⟨rfl,hb2⟩
  have HE2:=Hi (HE.out _ (HB.out.trans (hb2.mono HB.out.size)))
  clear hb2
  go_wp2
  go_ret
  exact HE2.out
 | true =>
  rw [hr] at HR
  have HVR:=Hi hr
  clear hr
  go_wp2_with (refine wpList_load_vecG vtP (by kernel_rfl) _ rfl _ rfl _ HV.out ?_)
  refine (HR.out _).mono ?_
  rintro e w2 ⟨rfl,hb2⟩
  replace HV:=Hi (HV.out.kept hb2)
  replace HL:=Hi (HL.out.kept hb2)
  replace HB:=Hi (HB.out.trans (hb2.mono HB.out.size))
  have y0:=HL.out.cell
  have HS:=Hi HL.out.st
  clear hb2
  go_wp2_with (refine wpList_load_sl HS.out rfl _ rfl rfl ?_)
  clear y0
  go_loopw [27,7] (fun i v wr=>∃ (k:Nat) (p':Option Addr) (c':Nat) (lo:List Be),k≤16∧i=.int .i64 (k:Int)∧v=.slice p' lo.length c'∧lo.map (·.x)=preS m.lg a k∧BRow w2.heap.size wr p' c' lo∧Below w2.heap.size w2 wr∧lo.length≤512 * k∧(lo.length:Int)≤max n 0) (fun i _ _=>16 - (intOf i).toNat)
  case atStart=>exact ⟨0,none,0,[],by omega,rfl,rfl,rfl,BRow.nil _ _,Below.refl _ _,by simp,by simp; omega⟩
  case round =>
   obtain ⟨k,p',c',lo,hk,rfl,rfl,hm,hrow,hbw,hl5,hmx⟩:=hrel
   have HM:=Hi hm
   have HROW:=Hi hrow
   have HBW:=Hi hbw
   have HL5:=Hi hl5
   have HMX:=Hi hmx
   clear hm hrow hbw hl5 hmx
   by_cases hlt:k<16
   ·have ix:=fun (W:World)=>run_index_sl W m k hlt
    have hcv:=(HV.out.kept HBW.out).cell k hlt
    have HBD:=Hi (vRight_iff.1 HVR.out k hlt)
    have HLN:=Hi (Sm.len HL.out.ok hlt)
    obtain ⟨D,hD⟩:∃ D,D=min (a k).toNat (m.el k).length:=⟨_,rfl⟩
    have HD:=Hi hD
    have hmin:min (a k) ((m.el k).length:Int)=(D:Int):=by have:=HBD.out; omega
    obtain ⟨hrd,hcap,hcn,hpp⟩:=(HS.out.kept HBW.out).rd hlt
    have HDL:=Hi (show D≤(m.el k).length from by omega)
    have HLG:=Hi (show m.lg.row k=(m.el k).map (·.x) from rfl)
    have HNX:=Hi (show preS m.lg a (k+1)=preS m.lg a k ++ ((m.el k).drop D).map (·.x) from by rw [preS_succ,HLG.out,List.map_drop,hD,← drop_min ((m.el k).map (·.x)) (a k).toNat,List.length_map])
    clear hD
    obtain ⟨wo,hwo⟩:∃ wo:World,wo=wr:=⟨_,rfl⟩
    by_cases hDl:D<(m.el k).length
    ·obtain rfl:D=(a k).toNat:=by have:=HD.out; omega
     obtain ⟨b,o,hq,-⟩:=hrd.addr (by rw [beCells_length]; omega)
     obtain ⟨hqb,hqe⟩:=hpp _ hq
     have ho:o=0:=by cases hqe; rfl
     subst ho
     have HQ:=Hi hq
     have HRD:=Hi (fun W (hW:Below w2.heap.size w2 W)=>by
      have h1:=((HS.out.kept hW).rd hlt).1
      rw [HQ.out] at h1
      replace h1:=h1.drop ((a k).toNat * 4)
      rw [Nat.zero_add,beCells_drop] at h1
      exact h1)
     have HCB:=Hi (fun (j:Nat) (hj:j<((m.el k).drop (a k).toNat).length) W (hW:Below w2.heap.size w2 W)=>by
      have hmem:beOf ((m.el k).drop (a k).toNat) j ∈ m.el k:=List.mem_of_mem_drop (beOf_mem hj)
      have hok:=Sm.okB HL.out.ok hlt hmem
      exact bcopy_any (beOf ((m.el k).drop (a k).toNat) j).x (beOf ((m.el k).drop (a k).toNat) j).p (beOf ((m.el k).drop (a k).toNat) j).c W (((HS.out.kept hW).ops k hlt _ hmem).bops) hok.cp.1 hok.cp.2)
     have hsl:(a k).toNat≤(m.el k).length∧(m.el k).length≤m.c k∧¬ m.c k=(a k).toNat∧¬ (a k).toNat=m.c k:=by omega
     obtain ⟨hs1,hs2,hs3,hs4⟩:=hsl
     have hT:((m.el k).drop (a k).toNat).length=(m.el k).length - (a k).toNat:=List.length_drop ..
     have HTL:=Hi hT
     have HDN:=Hi (show ((m.el k).length:Int) - ((a k).toNat:Int)=(((m.el k).drop (a k).toNat).length:Int) from by rw [hT]; omega)
     rw [hq] at ix
     clear hpp hrd hqb hqe hcn hcap hT hq
     generalize hel:(m.el k).drop (a k).toNat=T at *
     go_wp2
     rw [← HTL.out]
     go_loopw [40,7] (fun i v wr2=>∃ (j:Nat) (p':Option Addr) (c':Nat) (lo:List Be),j≤T.length∧i=.int .i64 (j:Int)∧v=.slice p' lo.length c'∧lo.map (·.x)=preS m.lg a k ++ (T.take j).map (·.x)∧BRow w2.heap.size wr2 p' c' lo∧Below w2.heap.size w2 wr2∧lo.length≤512 * k+j∧(lo.length:Int)≤max n 0) (fun i _ _=>T.length - (intOf i).toNat)
     case atStart=>exact ⟨0,p',c',lo,by omega,rfl,rfl,by rw [HM.out]; simp,HROW.out,HBW.out,by have:=HL5.out; omega,HMX.out⟩
     case round =>
      clear HM HROW HBW HL5 HMX
      obtain ⟨j,p',c',lo,hj,rfl,rfl,hm,hrow,hbw,hl5,hmx⟩:=hrel
      have HM:=Hi hm
      have HROW:=Hi hrow
      have HBW:=Hi hbw
      have HL5:=Hi hl5
      have HMX:=Hi hmx
      clear hm hrow hbw hl5 hmx
      subst hwo
      by_cases hjl:j<T.length
      ·have hd0:decide ((j:Int)<(T.length:Int))=true:=decide_eq_true (by have:=HTL.out; omega)
       have HRDJ:=Hi (HRD.out _ HBW.out)
       have HC:=Hi (HCB.out j hjl)
       have HTK:=Hi (show (T.take (j+1)).map (·.x)=(T.take j).map (·.x) ++ [(beOf T j).x] from by
        rw [List.take_succ_eq_append_getElem hjl,List.map_append]
        simp [beOf,hjl])
       by_cases hst:n≤(lo.length:Int)
       ·have hd1:decide (n≤(lo.length:Int))=true:=decide_eq_true hst
        have HE:=Hi (fun W (hW:Below wr.heap.size wr W)=>show Sinced (sinceL m.lg a n) w (.returned (.slice p' lo.length c')) W from ⟨p',c',lo,rfl,by
         rw [HM.out]
         refine (preS_stop (j:=j) (D:=(a k).toNat) HVR.out hlt (by rw [HLG.out,List.length_map]; omega) ?_ ?_ ?_).symm
         ·rw [HLG.out,← List.map_drop,hel,List.map_take]
         ·rw [← HM.out,List.length_map]; exact hst
         ·rw [← HM.out,List.length_map]; exact HMX.out,(HROW.out.kept hW).low HB.out.size,HB.out.trans ((HBW.out.trans (hW.mono HBW.out.size)).mono HB.out.size)⟩)
        clear hst
        go_wp2_with (first | (refine wpList_load_be btP rfl _ rfl b ((a k).toNat * 4) j rfl T HRDJ.out hjl ?_) | (refine wpList_store_newag btP rfl _ _ rfl rfl _ rfl rfl rfl (btA_one _ _ _) ?_; intro w4 hv4 hb4; have HE4:=Hi (HE.out _ hb4); clear hb4))
        go_ret
        exact HE4.out
       ·have hd1:decide (n≤(lo.length:Int))=false:=decide_eq_false hst
        have HST:=Hi hst
        clear hst
        go_wp2_with (first | (refine wpList_load_be btP rfl _ rfl b ((a k).toNat * 4) j rfl T HRDJ.out hjl ?_) | (refine wpList_store_newag btP rfl _ _ rfl rfl _ rfl rfl rfl (btA_one _ _ _) ?_; intro w4 hv4 hb4) | (refine wpList_load_ag btP rfl _ rfl _ rfl rfl hv4 ?_))
        have HB4:=Hi (HBW.out.trans (hb4.mono HBW.out.size))
        have HROW4:=Hi (HROW.out.kept hb4)
        clear hb4 hv4
        refine (HC.out _ HB4.out).mono ?_
        rintro e w5 ⟨p5,c5,rfl,hp5,hb5⟩
        have hb6:=(Below.refl w5.heap.size w5).alloc (Nat.le_refl _) (.cells (btA (beOf T j).x p5 c5) 39)
        have HROW6:=Hi ((HROW4.out.kept hb5).kept hb6)
        have HB5:=Hi (HB4.out.trans (hb5.mono HB4.out.size))
        have HB6:=Hi (HB5.out.trans (hb6.mono HB5.out.size))
        have HP6:=Hi (show BopsF (fun j=>w2.heap.size≤j∧(Value.slice p' lo.length c').ownBlock≠some j) (w5.alloc (.cells (btA (beOf T j).x p5 c5) 39)) (beOf T j).x p5 c5 from
         ((BopsF.ofN hp5).below hb6).mono fun j _ hj=>⟨Nat.le_trans HB4.out.size hj,fun hh=>by have:=(World.ownsRow.lt HROW4.out.own j hh).2; omega⟩)
        have HRW:=Hi (rd_bt_one w5 ⟨(beOf T j).x,p5,c5⟩ 39)
        have HSZ:=Hi (show w2.heap.size≤(w5.alloc (.cells (btA (beOf T j).x p5 c5) 39)).heap.size from HB6.out.size)
        clear hp5 hb5 hb6
        generalize beOf T j=be at *
        have hll:=HL5.out
        have hTl:=HTL.out
        have hLn:=HLN.out
        go_wp2_with (first | (refine wpList_build_bt rfl _ rfl be.x p5 c5 rfl ?_) | (at_builtin; refine wpList_append_k rfl _ _ 33 rfl w2.heap.size 39 i0 _ 4 48 Tryz.underlying33 hi hz0 hz1 (by decide) hz2 (by decide) rfl _ lo.length (beCells lo) rfl HROW6.out.own _ 1 1 (beL ⟨be.x,p5,c5⟩) rfl rfl HRW.out (fun h=>by cases h) (beL_one _) (by omega) HSZ.out ?_; intro p7 c7 w7 ho7 hg7 hw7))
        have HE:=Hi (HROW6.out.push HP6.out ho7 hg7 hw7)
        have HB7:=Hi (show Below w2.heap.size w2 w7 from HB6.out.trans ((Turns.of_grown hg7).below (fun j _ hj=>by
         exact (World.ownsRow.lt HROW6.out.own j hj).1) HSZ.out))
        clear ho7 hg7 hw7
        go_wp2
        go_roundw
        case rel=>exact ⟨_,_,_,_,⟨j+1,by omega,rfl,p7,c7,lo ++ [⟨be.x,p5,c5⟩],rfl,by rw [← List.map_take,HTK.out,List.map_append,HM.out,List.append_assoc]; rfl,HE.out,HB7.out,by simp; omega,by have:=HST.out; have:=HMX.out; simp; omega⟩,rfl,by simp,rfl,by go_num⟩
        case measure=>simp [intOf]; omega
      ·obtain rfl:j=T.length:=by omega
       have hd0:decide ((T.length:Int)<(T.length:Int))=false:=decide_eq_false (by have:=HTL.out; omega)
       have HM':=Hi (show lo.map (·.x)=preS m.lg a (k+1) from by rw [HM.out,HNX.out,List.take_length])
       have hll:=HL5.out
       have hTl:=HTL.out
       have hLn:=HLN.out
       go_wp2
       go_roundw
       case rel=>exact ⟨k+1,p',c',lo,by omega,by go_num,rfl,HM'.out,HROW.out,HBW.out,by omega,HMX.out⟩
       case measure=>simp [intOf]; omega
    ·obtain rfl:D=(m.el k).length:=by omega
     have hak:((m.el k).length:Int)≤a k:=by have:=HD.out; have:=HBD.out; omega
     have HM':=Hi (show lo.map (·.x)=preS m.lg a (k+1) from by rw [HM.out,HNX.out,List.drop_length]; simp)
     have hln:=HLN.out
     have hll:=HL5.out
     by_cases hcd:m.c k=(m.el k).length
     ·rw [hcd] at ix
      clear hpp hrd hcn hcd hcap
      rcases (show a k=((m.el k).length:Int)∨((m.el k).length:Int)<a k from by omega) with hae | hal
      ·rw [hae] at hcv
       clear hae hak hmin
       go_wp2
       go_loopw [40,7] (fun i v wr2=>i=.int .i64 0∧v=.slice p' lo.length c'∧BRow w2.heap.size wr2 p' c' lo∧Below w2.heap.size w2 wr2) (fun _ _ _=>0)
       case atStart=>exact ⟨rfl,rfl,HROW.out,HBW.out⟩
       case round =>
        obtain ⟨rfl,rfl,hrow,hbw⟩:=hrel
        have HROW':=Hi hrow
        have HBW':=Hi hbw
        clear hrow hbw
        go_wp2
        go_roundw
        case rel=>exact ⟨k+1,p',c',lo,by omega,by go_num,rfl,HM'.out,HROW'.out,HBW'.out,by omega,HMX.out⟩
        case measure=>simp [intOf]; omega
      ·go_wp2
       go_loopw [40,7] (fun i v wr2=>i=.int .i64 0∧v=.slice p' lo.length c'∧BRow w2.heap.size wr2 p' c' lo∧Below w2.heap.size w2 wr2) (fun _ _ _=>0)
       case atStart=>exact ⟨rfl,rfl,HROW.out,HBW.out⟩
       case round =>
        obtain ⟨rfl,rfl,hrow,hbw⟩:=hrel
        have HROW':=Hi hrow
        have HBW':=Hi hbw
        clear hrow hbw
        go_wp2
        go_roundw
        case rel=>exact ⟨k+1,p',c',lo,by omega,by go_num,rfl,HM'.out,HROW'.out,HBW'.out,by omega,HMX.out⟩
        case measure=>simp [intOf]; omega
     ·have hcd':¬ (m.el k).length=m.c k:=fun h=>hcd h.symm
      clear hpp hrd hcn
      rcases (show a k=((m.el k).length:Int)∨((m.el k).length:Int)<a k from by omega) with hae | hal
      ·rw [hae] at hcv
       clear hae hak hmin
       go_wp2
       go_loopw [40,7] (fun i v wr2=>i=.int .i64 0∧v=.slice p' lo.length c'∧BRow w2.heap.size wr2 p' c' lo∧Below w2.heap.size w2 wr2) (fun _ _ _=>0)
       case atStart=>exact ⟨rfl,rfl,HROW.out,HBW.out⟩
       case round =>
        obtain ⟨rfl,rfl,hrow,hbw⟩:=hrel
        have HROW':=Hi hrow
        have HBW':=Hi hbw
        clear hrow hbw
        go_wp2
        go_roundw
        case rel=>exact ⟨k+1,p',c',lo,by omega,by go_num,rfl,HM'.out,HROW'.out,HBW'.out,by omega,HMX.out⟩
        case measure=>simp [intOf]; omega
      ·go_wp2
       go_loopw [40,7] (fun i v wr2=>i=.int .i64 0∧v=.slice p' lo.length c'∧BRow w2.heap.size wr2 p' c' lo∧Below w2.heap.size w2 wr2) (fun _ _ _=>0)
       case atStart=>exact ⟨rfl,rfl,HROW.out,HBW.out⟩
       case round =>
        obtain ⟨rfl,rfl,hrow,hbw⟩:=hrel
        have HROW':=Hi hrow
        have HBW':=Hi hbw
        clear hrow hbw
        go_wp2
        go_roundw
        case rel=>exact ⟨k+1,p',c',lo,by omega,by go_num,rfl,HM'.out,HROW'.out,HBW'.out,by omega,HMX.out⟩
        case measure=>simp [intOf]; omega
   ·obtain rfl:k=16:=by omega
    have HE:=Hi (show Sinced (sinceL m.lg a n) w (.returned (.slice p' lo.length c')) wr from ⟨p',c',lo,rfl,by rw [HM.out,preS_end HVR.out (by rw [← HM.out,List.length_map]; exact HMX.out)],HROW.out.low HB.out.size,HB.out.trans (HBW.out.mono HB.out.size)⟩)
    go_wp2
    go_ret
    exact HE.out
open Go.RowKit
structure Ee where
 s:Qm.St
 y:Opp
 q:Option Addr
 c:Nat
def eeL (e:Ee):List Value:=[.int .i64 e.s.1,.int .i64 e.s.2] ++ opL e.y e.q e.c
def eeA (e:Ee):Array Value:=(eeL e).toArray
def eeCells (l:List Ee):List Value:=l.flatMap eeL
def eeOf (l:List Ee) (i:Nat):Ee:=l.getD i ⟨(0,0),Opp.zero,none,0⟩
theorem eeL_length (e:Ee):(eeL e).length=14:=rfl
theorem eeCells_length (l:List Ee):(eeCells l).length=l.length * 14:=by
 induction l with
 | nil=>rfl
 | cons a l ih=>simp only [eeCells,List.flatMap_cons,List.length_append,eeL_length,List.length_cons] at *; omega
theorem eeCells_append (l m:List Ee):eeCells (l ++ m)=eeCells l ++ eeCells m:=by simp [eeCells]
theorem eeCells_sing (e:Ee):eeCells [e]=eeL e:=by simp [eeCells]
theorem eeL_one (e:Ee):∀ u ∈ eeL e,u.oneCell'=true:=by
 intro u hu
 rcases List.mem_append.1 hu with hu | hu
 ·simp only [List.mem_cons,List.not_mem_nil,or_false] at hu
  rcases hu with rfl | rfl <;> rfl
 ·exact opL_one _ _ _ u hu
theorem eeCells_get (l:List Ee) (i j:Nat) (h:i<l.length) (hj:j<14):(eeCells l)[i * 14+j]?=(eeL (eeOf l i))[j]?:=by
 induction l generalizing i with
 | nil=>simp at h
 | cons a l ih =>
  unfold eeCells
  rw [List.flatMap_cons]
  cases i with
  | zero=>rw [List.getElem?_append_left (by rw [eeL_length]; omega)]; simp [eeOf]
  | succ i =>
   rw [List.getElem?_append_right (by rw [eeL_length]; omega),eeL_length,show (i+1) * 14+j - 14=i * 14+j from by omega]
   have:=ih i (by simpa using h)
   simpa [eeOf,eeCells] using this
theorem eeCells_drop (l:List Ee) (n:Nat):(eeCells l).drop (n * 14)=eeCells (l.drop n):=by
 induction l generalizing n with
 | nil=>simp [eeCells]
 | cons a l ih =>
  cases n with
  | zero=>simp [eeCells]
  | succ i =>
   have e0:eeCells (a :: l)=eeL a ++ eeCells l:=by simp [eeCells]
   rw [e0,show (i+1) * 14=14+i * 14 from by omega,← List.drop_drop]
   have e1:(eeL a ++ eeCells l).drop 14=eeCells l:=by rw [← eeL_length a,List.drop_left]
   rw [e1,ih]
   rfl
theorem eeOf_mem {l:List Ee} {i:Nat} (h:i<l.length):eeOf l i ∈ l:=by
 have:eeOf l i=l[i]:=by simp [eeOf,h]
 rw [this]; exact List.getElem_mem h
theorem einfo_ee:(Tryz.prog.info? 71).map (fun i=>(i.zero,i.size,i.bytes))=some (some (.agg (eeA ⟨(0,0),Opp.zero,none,0⟩)),14,144):=by kernel_rfl
theorem run_build_ee (w:World) (e:Ee):(Instr.buildSlice 66 1 #[(0,.agg (eeA e))]).run Tryz.prog w=.ok (.slice (some ⟨w.heap.size,0,none⟩) 1 1) (w.alloc (.cells (eeA e) 71)):=by kernel_rfl
theorem wp_build_ee {w:World} {o:Oper} {a:Act} {K:Act→World→Prop} {Q:Exit→Act→World→Prop} (x:Operand) (ho:o.op=.buildSlice 66 1 #[(0,x)]) (e:Ee) (hx:a.eval x=.agg (eeA e))
  (h:K (a.put o.dst (.slice (some ⟨w.heap.size,0,none⟩) 1 1)) (w.alloc (.cells (eeA e) 71))):Oper.wp Tryz.prog o a w K Q:=by
 unfold Oper.wp execOp
 simp only [ho,Sem.run_bind,Sem.run_pure,Result.andThen_ok,List.map_toArray,List.map_cons,List.map_nil,hx,run_build_ee]
 exact h
theorem run_make_ee (w:World) (a b:Int) (y:Opp) (q:Option Addr) (c:Nat):(Instr.build 71 #[(0,.agg #[.int .i64 a,.int .i64 b]),(1,.agg (opA y q c))]).run Tryz.prog w=.ok (.agg (eeA ⟨(a,b),y,q,c⟩)) w:=by kernel_rfl
theorem exec_build_ee {c:Act} {w:World} {o:Oper} {u v:Operand} (ho:o.op=.build 71 #[(0,u),(1,v)]) {a b:Int} {y:Opp} {q:Option Addr} {k:Nat} (hu:c.eval u=.agg #[.int .i64 a,.int .i64 b]) (hv:c.eval v=.agg (opA y q k)) :
  (execOp c.eval o).run Tryz.prog w=.ok (.value (.agg (eeA ⟨(a,b),y,q,k⟩))) w:=by
 unfold execOp
 simp only [ho,Sem.run_bind,Sem.run_pure,Result.andThen_ok,List.map_toArray,List.map_cons,List.map_nil,hu,hv,run_make_ee]
theorem rd_ee_one (w:World) (e:Ee) (E:TypeId):Rd (w.alloc (.cells (eeA e) E)) (some ⟨w.heap.size,0,none⟩) (eeL e):=fun _=>⟨_,0,rfl,fun i u hu=>by
 rw [Nat.zero_add,World.cell?_alloc_at _ _ _ _ rfl,← hu]
 simp [eeA]⟩
def PaF (F:Nat→Prop) (w:World) (y:Opp) (q:Option Addr) (c:Nat):Prop:=Pa w y q c∧(0<y.path.length→∀ a,q=some a→F a.block)
theorem PaF.mono {F G:Nat→Prop} {w:World} {y:Opp} {q:Option Addr} {c:Nat} (h:PaF F w y q c) (hm:∀ k,k<w.heap.size→F k→G k):PaF G w y q c:=by
 refine ⟨h.1,fun h0 a ha=>?_⟩
 obtain ⟨b,o,e,hb⟩:=h.1.rd.addr (by rw [stCells_length]; omega)
 rw [ha] at e; cases e
 exact hm _ hb (h.2 h0 _ ha)
theorem PaF.turns {F G:Nat→Prop} {w w':World} {y:Opp} {q:Option Addr} {c:Nat} (h:PaF F w y q c) (ht:Turns G w w') (hd:∀ k,F k→¬ G k):PaF F w' y q c:=by
 refine ⟨⟨fun h0=>?_,h.1.nil,h.1.cap⟩,h.2⟩
 obtain ⟨b,o,rfl,hc⟩:=h.1.rd h0
 rw [stCells_length] at h0
 exact ⟨b,o,rfl,fun i u hu=>ht.cell (hc i u hu) (hd _ (h.2 (by omega) ⟨b,o,none⟩ rfl))⟩
theorem PaF.kept {F:Nat→Prop} {w w':World} {y:Opp} {q:Option Addr} {c:Nat} (h:PaF F w y q c) (hb:Below w.heap.size w w'):PaF F w' y q c:=⟨h.1.kept hb,h.2⟩
structure ERow (F:Nat→Prop) (w:World) (p:Option Addr) (c:Nat) (l:List Ee):Prop where
 own:w.ownsRow 0 71 14 (.slice p l.length c) l.length (eeCells l)
 of:∀ b,(Value.slice p l.length c).ownBlock=some b→F b
 pa:∀ e,e ∈ l→PaF (fun k=>F k∧(Value.slice p l.length c).ownBlock≠some k) w e.y e.q e.c
section
variable {F:Nat→Prop} {w w':World} {p p':Option Addr} {c c':Nat} {l:List Ee}
theorem ERow.nil (F:Nat→Prop) (w:World):ERow F w none 0 []:=⟨World.ownsRow_nil _ _ _ _,fun _ h=>(by cases h),fun _ h=>(by cases h)⟩
theorem ERow.lt (h:ERow F w p c l) {b:Nat} (hb:(Value.slice p l.length c).ownBlock=some b):b<w.heap.size:=(World.ownsRow.lt h.own b hb).2
theorem ERow.kept (h:ERow F w p c l) (hb:Below w.heap.size w w'):ERow F w' p c l:=⟨own_belowK h.own hb,h.of,fun e he=>(h.pa e he).kept hb⟩
theorem ERow.turns {G:Nat→Prop} (h:ERow F w p c l) (ht:Turns G w w') (hG:∀ k,F k→¬ G k):ERow F w' p c l :=
 ⟨ht.own h.own fun g hg hh=>hG g (h.of g hg) hh,h.of,fun e he=>(h.pa e he).turns ht fun k hk hh=>hG k hk.1 hh⟩
theorem ERow.mono {G:Nat→Prop} (h:ERow F w p c l) (hm:∀ k,k<w.heap.size→F k→G k):ERow G w p c l :=
 ⟨h.own,fun b hb=>hm b (h.lt hb) (h.of b hb),fun e he=>(h.pa e he).mono fun k hk h1=>⟨hm k hk h1.1,h1.2⟩⟩
theorem ERow.rd (h:ERow F w p c l):Rd w p (eeCells l)∧l.length≤c∧(p=none→c=0)∧(∀ a,p=some a→a.block<w.heap.size∧a=⟨a.block,0,none⟩):=by
 obtain ⟨p2,c2,e,h1,h2,-,h3,h4⟩:=own_rd h.own
 obtain ⟨rfl,rfl⟩:p=p2∧c=c2:=by cases e; exact ⟨rfl,rfl⟩
 exact ⟨h1,h2,h3,fun a ha=>⟨(h4 a ha).2.1,(h4 a ha).2.2.2⟩⟩
theorem ERow.push {e:Ee} (h:ERow F w p c l) (he:PaF (fun k=>F k∧(Value.slice p l.length c).ownBlock≠some k) w e.y e.q e.c)
  (ho:w'.ownsRow 0 71 14 (.slice p' (l.length+1) c') (l.length+1) (eeCells l ++ eeL e)) (hg:w.grownBy w' (Value.slice p l.length c).ownBlock)
  (hw:∀ g,(Value.slice p' (l.length+1) c').ownBlock=some g→(Value.slice p l.length c).ownBlock=some g∨w.heap.size≤g) (hF:∀ k,w.heap.size≤k→F k):ERow F w' p' c' (l ++ [e]):=by
 have hl:(l ++ [e]).length=l.length+1:=by simp
 have hk:∀ b:Ee,PaF (fun k=>F k∧(Value.slice p l.length c).ownBlock≠some k) w b.y b.q b.c→PaF (fun k=>F k∧(Value.slice p' (l.length+1) c').ownBlock≠some k) w' b.y b.q b.c:=fun b hb=>by
  have h1:=hb.mono (G:=fun k=>F k∧(Value.slice p l.length c).ownBlock≠some k∧(Value.slice p' (l.length+1) c').ownBlock≠some k) fun k hk ⟨h1,h2⟩=>⟨h1,h2,fun hh=>by
   rcases hw k hh with h3 | h3
   ·exact h2 h3
   ·omega⟩
  have h2:=h1.turns (Turns.of_grown hg) fun k hk hh=>hk.2.1 hh
  exact h2.mono fun k _ hk=>⟨hk.1,hk.2.2⟩
 refine ⟨?_,fun b hb=>?_,fun b hb=>?_⟩
 ·rw [hl,eeCells_append,eeCells_sing]; exact ho
 ·rw [hl] at hb
  exact (hw b hb).elim (h.of b) (hF b)
 ·rw [hl]
  rcases List.mem_append.1 hb with hb | hb
  ·exact hk b (h.pa b hb)
  ·obtain rfl:b=e:=by simpa using hb
   exact hk b he
end
abbrev Ent:=Qm.St × Opp
def entB (x:Bat):List Ent:=(List.range x.ops.length).map fun (i:Nat)=>((x.t+(i:Int),x.r),opOf x.ops i)
def entR (l:List Bat):List Ent:=l.flatMap entB
def Ee.en (e:Ee):Ent:=(e.s,e.y)
theorem entB_length (x:Bat):(entB x).length=x.ops.length:=by simp [entB]
theorem entB_take (x:Bat) (j:Nat) (h:j<x.ops.length):(entB x).take (j+1)=(entB x).take j ++ [((x.t+(j:Int),x.r),opOf x.ops j)]:=by
 rw [List.take_succ_eq_append_getElem (by rw [entB_length]; exact h)]
 simp [entB]
theorem entR_succ (l:List Bat) (k:Nat) (h:k<l.length):entR (l.take (k+1))=entR (l.take k) ++ entB l[k]:=by
 rw [List.take_succ_eq_append_getElem h]
 unfold entR
 rw [List.flatMap_append]
 simp
theorem entR_le (l:List Bat) (k:Nat):(entR (l.take k)).length≤(entR l).length:=by
 conv=>rhs; rw [← List.take_append_drop k l]
 simp only [entR,List.flatMap_append,List.length_append]
 omega
def Ents (L:List Ent) (w:World) (e:Ending) (w':World):Prop :=
 ∃ p c lo,e=.returned (.slice p lo.length c)∧lo.map Ee.en=L∧ERow (fun k=>w.heap.size≤k) w' p c lo∧Below w.heap.size w w'
theorem entries_any {S M:Nat} {m:Sm} {F:Nat→Prop} (r:Nat) (w:World) (h:St w S M m F) (ho:LgOk m.lg) (hr:r<16) (hn:(entR (m.lg.row r)).length≤5000) :
  Calls Tryz.prog 59 #[.pointer (some ⟨S,0,none⟩),.int .i64 (r:Int)] w (Ents (entR (m.lg.row r)) w):=by
 obtain ⟨i0,hi,hz0,hz1,hz2⟩:=info_parts einfo_ee
 have HS:=Hi h
 have HLG:=Hi (show m.lg.row r=(m.el r).map (·.x) from rfl)
 have HNE:=Hi hn
 have HOB:=Hi (fun (k:Nat) (hk:k<(m.el r).length)=>Sm.okB ho hr (beOf_mem hk))
 have HBO:=Hi (fun (k:Nat) (hk:k<(m.el r).length) W (hW:Below w.heap.size w W)=>((HS.out.kept hW).ops r hr _ (beOf_mem hk)).bops)
 have HRD:=Hi (fun W (hW:Below w.heap.size w W)=>((HS.out.kept hW).rd hr).1)
 have hri:(r:Int)<16:=by omega
 have yc:=h.cell hr
 have HLN:=Hi (Sm.len ho hr)
 obtain ⟨hrd,-,-,-⟩:=h.rd hr
 clear h hn ho
 generalize hqr:m.q r=qr at *
 go_enter Tryz.func59,Tryz.ntmps59
 go_wp2
 clear yc
 go_loopw [4,17] (fun v i wr=>∃ (k:Nat) (p':Option Addr) (c':Nat) (lo:List Ee),k≤(m.el r).length∧i=.int .i64 (k:Int)∧v=.slice p' lo.length c'∧lo.map Ee.en=entR ((m.lg.row r).take k)∧ERow (fun k=>w.heap.size≤k) wr p' c' lo∧Below w.heap.size w wr) (fun _ i _=>(m.el r).length - (intOf i).toNat)
 case atStart=>exact ⟨0,none,0,[],Nat.zero_le _,rfl,rfl,rfl,ERow.nil _ _,Below.refl _ _⟩
 case round =>
  obtain ⟨k,p',c',lo,hk,rfl,rfl,hm,hrow,hbw⟩:=hrel
  have HM:=Hi hm
  have HROW:=Hi hrow
  have HBW:=Hi hbw
  clear hm hrow hbw
  by_cases hlt:k<(m.el r).length
  ·have hd0:decide ((k:Int)<((m.el r).length:Int))=true:=decide_eq_true (by omega)
   obtain ⟨b,o,rfl,-⟩:=hrd.addr (by rw [beCells_length]; omega)
   have HRDK:=Hi (HRD.out _ HBW.out)
   have HX:=Hi (HOB.out k hlt)
   have HBK:=Hi (HBO.out k hlt)
   have HNK:=Hi (show entR ((m.lg.row r).take (k+1))=entR ((m.lg.row r).take k) ++ entB (beOf (m.el r) k).x from by
    rw [entR_succ _ _ (by rw [HLG.out,List.length_map]; exact hlt)]
    simp [HLG.out,beOf,hlt])
   have HNL:=Hi (show (entR ((m.lg.row r).take (k+1))).length≤5000 from Nat.le_trans (entR_le _ _) HNE.out)
   obtain ⟨x,hx⟩:∃ x,x=(beOf (m.el r) k).x:=⟨_,rfl⟩
   obtain ⟨xp,hxp⟩:∃ xp,xp=(beOf (m.el r) k).p:=⟨_,rfl⟩
   obtain ⟨xc,hxc⟩:∃ xc,xc=(beOf (m.el r) k).c:=⟨_,rfl⟩
   rw [← hx] at HX HNK HBK
   rw [← hxp,← hxc] at HBK
   have HCL:=Hi (show beL (beOf (m.el r) k)=beL ⟨x,xp,xc⟩ from by rw [hx,hxp,hxc])
   have HCL0:=Hi (show btA (beOf (m.el r) k).x (beOf (m.el r) k).p (beOf (m.el r) k).c=btA x xp xc from by rw [hx,hxp,hxc])
   clear hx hxp hxc
   obtain ⟨wo,hwo⟩:∃ wo:World,wo=wr:=⟨_,rfl⟩
   go_upto_region 4 with (first | (refine wpList_load_be btP rfl _ rfl b o k rfl (m.el r) HRDK.out hlt ?_) | (rw [HCL0.out]; refine wpList_store_newag (A:=btA x xp xc) btP rfl _ _ rfl rfl _ rfl rfl rfl (btA_one _ _ _) ?_; intro w4 hv4 hb4))
   have HXL:=Hi ((rightT_iff.1 HX.out.right).2.2.1)
   have HXT:=Hi ((rightT_iff.1 HX.out.right).2.2.2.1)
   have HV4:=Hi hv4
   have HB4:=Hi (HBW.out.trans (hb4.mono HBW.out.size))
   have HROW4:=Hi (HROW.out.kept hb4)
   obtain ⟨l2,hos⟩:=HBK.out w (Below.refl _ _)
   have HOS:=Hi (fun W (hW:Below w.heap.size w W)=>hos.kept hW)
   have hst:=bstamp_any x xp xc 0 w4 HX.out.szs (HBK.out _ HB4.out) (by omega)
   have hst0:stampT x 0=(x.t,x.r):=by rw [stampT_yes ⟨by omega,by have:=HXL.out; omega,HX.out.right⟩]; simp
   rw [hst0] at hst
   have HST:=Hi hst
   have HCP:=Hi HX.out.cp.2
   clear hst hst0 hv4 hb4 hos
   go_wp2_with (refine wpList_load_ag btP (by kernel_rfl) _ rfl _ rfl (A:=btA x xp xc) rfl HV4.out ?_)
   refine HST.out.mono ?_
   rintro e ws ⟨rfl,hb5⟩
   have HV5:=Hi (AgAt.kept HV4.out hb5)
   have HB5:=Hi (HB4.out.trans (hb5.mono HB4.out.size))
   have HROW5:=Hi (HROW4.out.kept hb5)
   clear hb5
   go_upto_region 5 with (refine wpList_store_newag (A:=#[.int .i64 x.t,.int .i64 x.r]) stT rfl _ _ rfl rfl _ rfl rfl rfl (stA_one _ _) ?_; intro w6 hv6 hb6)
   obtain ⟨-,-,-,y3⟩:=BtAt.cells (AgAt.kept HV5.out hb6)
   have HV6:=Hi (show AgAt w6 ws.heap.size #[.int .i64 (x.t+((0:Nat):Int)),.int .i64 x.r] from by simpa using hv6)
   have HB6:=Hi (HB5.out.trans (hb6.mono HB5.out.size))
   have HROW6:=Hi ((HROW5.out.mono (G:=fun k=>w.heap.size≤k∧k≠ws.heap.size) fun k hk h=>⟨h,by omega⟩).kept hb6)
   have HLT7:=Hi (show w.heap.size≤ws.heap.size from HB5.out.size)
   have HLL:=Hi (show lo.length≤5000 - x.ops.length from by
    have h1:=HNL.out
    rw [HNK.out,List.length_append,entB_length,← HM.out,List.length_map] at h1
    omega)
   clear hv6 hb6 HV5 HV4 HB4 HROW4 HROW HBW
   go_wp2
   clear y3
   go_loopw [4,26] (fun v i wr=>∃ (j:Nat) (p':Option Addr) (c':Nat) (lo':List Ee),j≤x.ops.length∧i=.int .i64 (j:Int)∧v=.slice p' lo'.length c'∧lo'.map Ee.en=entR ((m.lg.row r).take k) ++ (entB x).take j∧lo'.length=lo.length+j∧ERow (fun k=>w.heap.size≤k∧k≠ws.heap.size) wr p' c' lo'∧Below w.heap.size w wr∧AgAt wr ws.heap.size #[.int .i64 (x.t+(j:Int)),.int .i64 x.r]) (fun _ i _=>x.ops.length - (intOf i).toNat)
   case atStart=>exact ⟨0,p',c',lo,Nat.zero_le _,rfl,rfl,by rw [HM.out]; simp,rfl,HROW6.out,HB6.out,HV6.out⟩
   case round =>
    clear HM HROW5 HROW6 HB5 HB6 HV6
    obtain ⟨j,p',c',lo',hj,rfl,rfl,hm,hlj,hrow,hbw,hva⟩:=hrel
    have HM:=Hi hm
    have HROW:=Hi hrow
    have HBW:=Hi hbw
    have HVA:=Hi hva
    have HLJ:=Hi hlj
    clear hm hrow hbw hva hlj
    by_cases hjl:j<x.ops.length
    ·have hd0:decide ((j:Int)<(x.ops.length:Int))=true:=decide_eq_true (by omega)
     have HOSJ:=Hi (HOS.out _ HBW.out)
     obtain ⟨g,o,rfl,hgl⟩:=HOSJ.out.rd.addr (by rw [enCells_length,HOSJ.out.len]; omega)
     have HKL:=Hi (show j<l2.length by rw [HOSJ.out.len]; exact hjl)
     have HXK:=Hi (HOSJ.out.x j)
     have HPK:=Hi (HOSJ.out.paOf hjl)
     have HPL:=Hi (HCP.out _ (opOf_mem hjl))
     have HTK:=Hi (entB_take x j hjl)
     have hkll:=HKL.out
     go_upto_region 8 with (first | (refine wpList_load_en otP rfl _ rfl g o j rfl l2 HOSJ.out.rd HKL.out ?_; rw [HXK.out]) | (refine wpList_store_newag agO rfl _ _ rfl rfl _ rfl rfl rfl (opA_one _ _ _) ?_; intro w9 hv9 hb9))
     obtain ⟨b9,hbe9⟩:∃ b9,b9=wr.heap.size:=⟨_,rfl⟩
     rw [← hbe9] at hv9
     rw [← hbe9]
     have hd9:=hb9.trans (Below.drew (Below.refl _ _))
     have HPK:=Hi (HPK.out.kept hd9)
     have HROW5:=Hi (HROW.out.kept hd9)
     have HB5:=Hi (HBW.out.trans (hd9.mono HBW.out.size))
     have hS0:AgAt w9.drew ws.heap.size #[.int .i64 (x.t+(j:Int)),.int .i64 x.r]∧AgAt w9.drew b9 (opA (opOf x.ops j) (enOf l2 j).q (enOf l2 j).c):=⟨AgAt.kept HVA.out hd9,hv9⟩
     have HN9:=Hi (show (Value.slice p' lo'.length c').ownBlock≠some b9 from fun h=>by have:=HROW.out.lt h; omega)
     have HLT9:=Hi (show ws.heap.size<w9.drew.heap.size from AgAt.lt hS0.1)
     clear hb9 hv9 hd9 hbe9
     refine wp_region_held_drew (S:=fun W=>AgAt W ws.heap.size #[.int .i64 (x.t+(j:Int)),.int .i64 x.r]∧AgAt W b9 (opA (opOf x.ops j) (enOf l2 j).q (enOf l2 j).c)) (by kernel_rfl) hS0 (fun hS=>?_)
     clear hS0
     generalize w9.drew=w5 at *
     have HOC:=Hi (opcopy_any (opOf x.ops j) (enOf l2 j).q (enOf l2 j).c w5 HPK.out HPL.out)
     have HNN:=Hi (show lo'.length+1≤5000 from by have:=HLL.out; have:=HLJ.out; have:=HXL.out; omega)
     refine tX 0 rfl hS ?_
     go_simp
     refine tK 1 (v:=.agg #[.int .i64 (x.t+(j:Int)),.int .i64 x.r]) rfl (fun W hSW=>exec_load_ag stT rfl rfl rfl hSW.1) hS ?_
     go_simp
     refine tK 2 (v:=.agg (opA (opOf x.ops j) (enOf l2 j).q (enOf l2 j).c)) rfl (fun W hSW=>exec_load_ag agO rfl rfl rfl hSW.2) hS ?_
     go_simp
     refine rD 3 rfl (fun K hK=>?_)
     go_simp
     go_wp2_with ((go_at_call 63; refine HOC.out.mono ?_; rintro e w6 ⟨q6,c6,rfl,hp6,hb6,hn6⟩))
     have hba6:=(Below.refl w6.heap.size w6).alloc (Nat.le_refl _) (.cells (eeA ⟨(x.t+(j:Int),x.r),opOf x.ops j,q6,c6⟩) 71)
     have HROW6:=Hi (HROW5.out.kept (hb6.trans (hba6.mono hb6.size)))
     have HB6:=Hi (HB5.out.trans ((hb6.trans (hba6.mono hb6.size)).mono HB5.out.size))
     have HP6:=Hi (show PaF (fun k=>(w.heap.size≤k∧k≠ws.heap.size)∧(Value.slice p' lo'.length c').ownBlock≠some k) (w6.alloc (.cells (eeA ⟨(x.t+(j:Int),x.r),opOf x.ops j,q6,c6⟩) 71)) (opOf x.ops j) q6 c6 from
      ⟨hp6.kept hba6,fun _ a ha=>⟨⟨Nat.le_trans HB5.out.size (hn6 a ha),by have:=HLT9.out; have:=hn6 a ha; omega⟩,fun hh=>by have:=HROW5.out.lt hh; have:=hn6 a ha; omega⟩⟩)
     have HZ7:=Hi (show w5.heap.size≤(w6.alloc (.cells (eeA ⟨(x.t+(j:Int),x.r),opOf x.ops j,q6,c6⟩) 71)).heap.size from by have:=hb6.size; simp; omega)
     have HSZ:=Hi (show w.heap.size≤(w6.alloc (.cells (eeA ⟨(x.t+(j:Int),x.r),opOf x.ops j,q6,c6⟩) 71)).heap.size from HB6.out.size)
     have HRW:=Hi (rd_ee_one w6 ⟨(x.t+(j:Int),x.r),opOf x.ops j,q6,c6⟩ 71)
     have hSn:AgAt w6 ws.heap.size #[.int .i64 (x.t+(j:Int)),.int .i64 x.r]∧AgAt w6 b9 (opA (opOf x.ops j) (enOf l2 j).q (enOf l2 j).c):=⟨AgAt.kept hS.1 hb6,AgAt.kept hS.2 hb6⟩
     refine hK.out _ _ hSn (fun hS=>?_)
     clear hK K hb6 hp6 hn6 hSn
     refine tK 4 (v:=.agg (eeA ⟨(x.t+(j:Int),x.r),opOf x.ops j,q6,c6⟩)) rfl (fun W hSW=>exec_build_ee rfl rfl rfl) hS ?_
     go_simp
     refine rD 5 rfl (fun K hK=>?_)
     refine step_of (by kernel_rfl) ?_
     refine wp_build_ee _ rfl ⟨(x.t+(j:Int),x.r),opOf x.ops j,q6,c6⟩ rfl ?_
     refine hK.out _ _ ⟨AgAt.kept hS.1 hba6,AgAt.kept hS.2 hba6⟩ (fun hS=>?_)
     clear hK K hba6
     generalize hee:(⟨(x.t+(j:Int),x.r),opOf x.ops j,q6,c6⟩:Ee)=ee at *
     have HEE:=Hi (show Ee.en ee=((x.t+(j:Int),x.r),opOf x.ops j) from by rw [← hee]; rfl)
     generalize w6.alloc (.cells (eeA ee) 71)=w7 at *
     refine rD 6 rfl (fun K hK=>?_)
     refine step_append_kN (by kernel_rfl) _ _ 66 rfl 0 71 i0 _ 14 144 Tryz.underlying66 hi hz0 hz1 (by decide) hz2 (by decide) rfl (.slice p' lo'.length c') lo'.length (eeCells lo') rfl HROW6.out.own _ 1 1 (eeL ee) rfl rfl HRW.out (fun h=>by cases h) (eeL_one _) (by have:=HNN.out; omega) (Nat.zero_le _) ?_
     intro p8 c8 w8 ho8 hg8 hw8
     have hpe:PaF (fun k=>(w.heap.size≤k∧k≠ws.heap.size)∧(Value.slice p' lo'.length c').ownBlock≠some k) w7 ee.y ee.q ee.c:=by rw [← hee]; exact HP6.out
     have HE:=Hi (HROW6.out.push hpe ho8 hg8 hw8 fun k hk=>⟨Nat.le_trans HSZ.out hk,by have:=HLT9.out; have:=HZ7.out; omega⟩)
     have hoff:=fun k hk=>HROW6.out.of k hk
     have HB8:=Hi (show Below w.heap.size w w8 from HB6.out.trans ((Turns.of_grown hg8).below (fun k _ hk=>(hoff k hk).1) HSZ.out))
     have h7n:some ws.heap.size≠(Value.slice p' lo'.length c').ownBlock:=fun h=>(hoff _ h.symm).2 rfl
     have h9n:some b9≠(Value.slice p' lo'.length c').ownBlock:=fun h=>HN9.out h.symm
     refine hK.out _ _ ⟨AgAt.block hS.1 (hg8.block _ (AgAt.lt hS.1) h7n),AgAt.block hS.2 (hg8.block _ (AgAt.lt hS.2) h9n)⟩ (fun hS=>?_)
     clear hK K ho8 hg8 hw8 h7n h9n hpe hoff
     refine tX 7 rfl hS ?_
     go_simp
     refine wpAnyH_done (by kernel_rfl) ?_ _
     go_simp
     have HA8:=Hi hS.1
     clear hS
     have z0:=AgAt.cell HA8.out 0
     have z1:=AgAt.free HA8.out 0
     have htw:IntKind.i64.wrap (x.t+(j:Int)+1)=x.t+(j:Int)+1:=wraps_i64 _ (by have:=HXT.out; omega) (by have:=HXT.out; have:=HXL.out; omega)
     have hxl:=HXL.out
     have HLJ1:=Hi (show (lo' ++ [ee]).length=lo'.length+1 from by simp)
     have HMM:=Hi (show (lo' ++ [ee]).map Ee.en=entR ((m.lg.row r).take k) ++ (entB x).take (j+1) from by rw [List.map_append,HM.out,HTK.out,List.append_assoc,← HEE.out]; simp)
     have HB9:=Hi (HB8.out.setCell (p:=⟨ws.heap.size,0,none⟩) HLT7.out (.int .i64 (x.t+(j:Int)+1)))
     have HE9:=Hi (HE.out.turns (set_turns ws.heap.size w8 0 (.int .i64 (x.t+(j:Int)+1))) fun k hk hh=>hk.2 hh)
     have HA9:=Hi (show AgAt (w8.setCell ⟨ws.heap.size,0,none⟩ (.int .i64 (x.t+(j:Int)+1))) ws.heap.size #[.int .i64 (x.t+((j+1:Nat):Int)),.int .i64 x.r] from by
      rw [show x.t+((j+1:Nat):Int)=x.t+(j:Int)+1 from by omega]
      exact AgAt.put HA8.out 0 (.int .i64 (x.t+(j:Int)+1)))
     have hlj:=HLJ.out
     go_wp2
     generalize w8.setCell ⟨ws.heap.size,0,none⟩ (.int .i64 (x.t+(j:Int)+1))=w9 at *
     go_roundw
     case rel=>exact ⟨j+1,p8,c8,lo' ++ [ee],by omega,by go_num,by simp,HMM.out,by simp; omega,HE9.out,HB9.out,HA9.out⟩
     case measure=>simp [intOf]; omega
    ·obtain rfl:j=x.ops.length:=by omega
     have hd0:decide ((x.ops.length:Int)<(x.ops.length:Int))=false:=decide_eq_false (by omega)
     have HM':=Hi (show lo'.map Ee.en=entR ((m.lg.row r).take (k+1)) from by rw [HM.out,HNK.out]; congr 1; exact List.take_of_length_le (by rw [entB_length]; exact Nat.le_refl _))
     have hln:=HLN.out
     go_wp2
     go_roundw
     case rel=>exact ⟨k+1,p',c',lo',by omega,by go_num,rfl,HM'.out,HROW.out.mono fun k _ h=>h.1,HBW.out⟩
     case measure=>simp [intOf]; omega
  ·obtain rfl:k=(m.el r).length:=by omega
   have hd0:decide (((m.el r).length:Int)<((m.el r).length:Int))=false:=decide_eq_false (by omega)
   have HE:=Hi (show Ents (entR (m.lg.row r)) w (.returned (.slice p' lo.length c')) wr from ⟨p',c',lo,rfl,by rw [HM.out,List.take_of_length_le (by rw [HLG.out,List.length_map]; exact Nat.le_refl _)],HROW.out,HBW.out⟩)
   go_wp2
   go_ret
   exact HE.out
open Go.RowKit
structure Er where
 q:Option Addr
 c:Nat
 l:List Ee
def Er.v (e:Er):Value:=.slice e.q e.l.length e.c
structure EeS (F:Nat→Prop) (w:World) (e:Er):Prop where
 rd:Rd w e.q (eeCells e.l)
 of:0<e.l.length→∀ a,e.q=some a→F a.block
 cap:e.l.length≤e.c
 pa:∀ x,x ∈ e.l→PaF F w x.y x.q x.c
section
variable {F G:Nat→Prop} {w w':World} {e:Er}
theorem rd_turns {q:Option Addr} {us:List Value} (hr:Rd w q us) (hf:0<us.length→∀ a,q=some a→F a.block) (ht:Turns G w w') (hd:∀ k,F k→¬ G k):Rd w' q us:=by
 intro h0
 obtain ⟨b,o,rfl,hc⟩:=hr h0
 have hF:F b:=hf h0 ⟨b,o,none⟩ rfl
 exact ⟨b,o,rfl,fun i u hu=>ht.cell (hc i u hu) (hd _ hF)⟩
theorem EeS.turns (h:EeS F w e) (ht:Turns G w w') (hd:∀ k,F k→¬ G k):EeS F w' e :=
 ⟨rd_turns h.rd (fun h0=>h.of (by rw [eeCells_length] at h0; omega)) ht hd,h.of,h.cap,fun x hx=>(h.pa x hx).turns ht hd⟩
theorem EeS.kept (h:EeS F w e) (hb:Below w.heap.size w w'):EeS F w' e:=⟨h.rd.below hb,h.of,h.cap,fun x hx=>(h.pa x hx).kept hb⟩
theorem EeS.mono (h:EeS F w e) (hm:∀ k,F k→G k):EeS G w e:=⟨h.rd,fun h0 a ha=>hm _ (h.of h0 a ha),h.cap,fun x hx=>(h.pa x hx).mono fun k _ hk=>hm k hk⟩
theorem EeS.nil (F:Nat→Prop) (w:World):EeS F w ⟨none,0,[]⟩:=⟨Rd.nil _ _,fun h=>absurd h (Nat.lt_irrefl 0),Nat.le_refl _,fun _ h=>(by cases h)⟩
theorem ERow.eeS {p:Option Addr} {c:Nat} {l:List Ee} (h:ERow F w p c l):EeS F w ⟨p,c,l⟩ :=
 ⟨h.rd.1,fun h0 a ha=>by
  obtain ⟨b,o,e,-⟩:=h.rd.1.addr (by rw [eeCells_length]; exact Nat.mul_pos h0 (by decide))
  dsimp only at ha
  rw [ha] at e
  have he:=(h.rd.2.2.2 a ha).2
  refine h.of _ ?_
  rw [ha,he]
  rfl,h.rd.2.1,fun x hx=>(h.pa x hx).mono fun _ _ hk=>hk.1⟩
end
theorem eeT:AgT 71 14:=⟨⟨_,Tryz.underlying71⟩,by kernel_rfl⟩
theorem Rd.ee {w:World} {b o:Nat} {l:List Ee} (h:Rd w (some ⟨b,o,none⟩) (eeCells l)) (i:Nat) (hi:i<l.length):w.rangeAt b (o+i * 14) (eeL (eeOf l i)):=by
 intro j v hv
 have hj:j<14:=by have:=(List.getElem?_eq_some_iff.1 hv).1; rw [eeL_length] at this; exact this
 rw [Nat.add_assoc]
 exact h.cell (by rw [eeCells_get l i j hi hj]; exact hv)
theorem wpList_load_ee {w:World} {ops:Array Oper} {rest:List Oper} {o:Oper} {a:Act} {Q:Exit→Act→World→Prop} (hgd:o.guard=none) (y:Operand) (ho:o.op=.load 71 y)
  (b s:Nat) (hx:a.eval y=.pointer (some ⟨b,s,none⟩)) (e:Ee) (l:List Ee) (hrd:Rd w (some ⟨b,s,none⟩) (eeCells (e :: l)))
  (h:wpList Tryz.prog ops Q rest (a.put o.dst (.agg (eeA e))) w):wpList Tryz.prog ops Q (o :: rest) a w:=by
 obtain ⟨d,hu⟩:=eeT.und
 exact wpList_load_mid hgd _ y ho b s hx (eeL e) _ (by have:=hrd.ee 0 (by simp); simpa [eeOf] using this) hu rfl eeT.size h
theorem wpList_load_est {w:World} {ops:Array Oper} {rest:List Oper} {o:Oper} {a:Act} {Q:Exit→Act→World→Prop} (hgd:o.guard=none) (y:Operand) (ho:o.op=.load 50 y)
  (b s:Nat) (hx:a.eval y=.pointer (some ⟨b,s,none⟩)) (e:Ee) (l:List Ee) (hrd:Rd w (some ⟨b,s,none⟩) (eeCells (e :: l)))
  (h:wpList Tryz.prog ops Q rest (a.put o.dst (.agg #[.int .i64 e.s.1,.int .i64 e.s.2])) w):wpList Tryz.prog ops Q (o :: rest) a w:=by
 obtain ⟨d,hu⟩:=stT.und
 refine wpList_load_mid hgd _ y ho b s hx [.int .i64 e.s.1,.int .i64 e.s.2] _ (fun j v hv=>?_) hu rfl stT.size h
 have h1:=hrd.ee 0 (by simp) j v
 rw [Nat.zero_mul,Nat.add_zero] at h1
 refine h1 ?_
 have hj:j<2:=by have:=(List.getElem?_eq_some_iff.1 hv).1; simpa using this
 show (eeL e)[j]?=some v
 unfold eeL
 rw [List.getElem?_append_left (by simpa using hj)]
 exact hv
def tlq (b o c:Nat):Option Addr:=if c=1 then some ⟨b,o,none⟩ else some ⟨b,o+14,none⟩
theorem run_tail_ee (W:World) (b o n c:Nat) (hn:1≤n) (hc:n≤c):(Instr.sliceAt 66 (.slice (some ⟨b,o,none⟩) n c) (some (.int .i64 1)) none none).run Tryz.prog W=.ok (.slice (tlq b o c) (n - 1) (c - 1)) W:=by
 have hu:Tryz.prog.underlying 66=some (.slice (Tryz.prog.elem 66)):=by kernel_rfl
 have hs:(sizeOf (Tryz.prog.elem 66)).run Tryz.prog W=.ok 14 W:=by kernel_rfl
 rw [run_sliceAt_slice (h:=hu),run_slice_l (ht:=hu) (h0:=by decide) (h1:=by omega),hs]
 simp only [Result.andThen_ok,sliced,tlq]
 by_cases h:c=1
 ·subst h; simp
 ·simp [h,Addr.add]
theorem EeS.tail {F:Nat→Prop} {w:World} {b o c:Nat} {e:Ee} {l:List Ee} (h:EeS F w ⟨some ⟨b,o,none⟩,c,e :: l⟩):EeS F w ⟨tlq b o c,c - 1,l⟩:=by
 have hc:=h.cap
 simp only [List.length_cons] at hc
 refine ⟨fun h0=>?_,fun h0 a ha=>?_,by dsimp only; omega,fun x hx=>h.pa x (List.mem_cons_of_mem _ hx)⟩
 ·rw [eeCells_length] at h0
  have hd:=h.rd.drop 14
  have e1:(eeCells (e :: l)).drop 14=eeCells l:=by have:=eeCells_drop (e :: l) 1; simpa using this
  dsimp only at hd
  rw [e1] at hd
  unfold tlq
  dsimp only
  rw [if_neg (by dsimp only at h0; omega)]
  exact hd (by rw [eeCells_length]; exact h0)
 ·dsimp only at h0 ha
  unfold tlq at ha
  rw [if_neg (by omega)] at ha
  cases ha
  exact h.of (by simp) ⟨b,o,none⟩ rfl
def headI (l:List Ee) (r:Nat):List Qm.It:=match l with
 | []=>[]
 | e :: _=>[(e.s,(r:Int))]
def Headed (Q:Nat) (G:Nat→Prop) (its:List Qm.It) (w:World) (e:Ending) (w':World):Prop :=
 e=.returned (.tuple #[])∧QO w' Q (ext G w w') its∧Turns G w w'
theorem run_build_it (W:World) (a b c:Int):(Instr.build 115 #[(0,.agg #[.int .i64 a,.int .i64 b]),(1,.int .i64 c)]).run Tryz.prog W=.ok (.agg #[.int .i64 a,.int .i64 b,.int .i64 c]) W:=by kernel_rfl
theorem pushHead_any {F:Nat→Prop} (Q:Nat) (G:Nat→Prop) (its:List Qm.It) (e:Er) (r:Nat) (w:World) (hq:QO w Q G its) (he:EeS F w e) (hl:its.length<2000) :
  Calls Tryz.prog 60 #[.pointer (some ⟨Q,0,none⟩),e.v,.int .i64 (r:Int)] w (Headed Q G (headI e.l r ++ its) w):=by
 obtain ⟨q,c,l⟩:=e
 unfold Er.v
 dsimp only
 cases l with
 | nil =>
  have HE:=Hi (show Headed Q G (headI [] r ++ its) w (.returned (.tuple #[])) w from ⟨rfl,hq.mono fun _ h=>Or.inl h,Turns.of_below (Below.refl _ _)⟩)
  clear hq he
  go_enter Tryz.func60,Tryz.ntmps60
  go_wp2
  go_end0
  exact HE.out
 | cons x l =>
  have HRD:=Hi he.rd
  obtain ⟨b,o,hqe,-⟩:=he.rd.addr (by rw [eeCells_length]; exact Nat.mul_pos (Nat.succ_pos _) (by decide))
  dsimp only at hqe
  subst hqe
  have HP:=Hi (qpush_any Q G its x.s.1 x.s.2 (r:Int) w hq hl)
  have hbi:=run_build_it
  have hl0:(0:Int)<(((x :: l).length:Nat):Int):=by rw [List.length_cons]; omega
  clear hq he
  generalize hn:(x :: l).length=n at *
  go_enter Tryz.func60,Tryz.ntmps60
  go_wp2_with (refine wpList_load_est rfl _ rfl b o rfl x l HRD.out ?_)
  refine HP.out.mono ?_
  rintro e w1 ⟨rfl,h1,h2⟩
  have HE:=Hi (show Headed Q G (headI (x :: l) r ++ its) w (.returned (.tuple #[])) w1 from ⟨rfl,h1,h2⟩)
  clear h1 h2
  go_wp2
  go_end0
  exact HE.out
open Go.RowKit
theorem flat_part {α:Type} (f g:Nat→List α) {r n:Nat} (hr:r<n) (h:∀ k,k≠r→g k=f k):∃ rest,((List.range n).flatMap f).Perm (f r ++ rest)∧((List.range n).flatMap g).Perm (g r ++ rest):=by
 induction n with
 | zero=>omega
 | succ n ih =>
  rw [List.range_succ,List.flatMap_append,List.flatMap_append]
  simp only [List.flatMap_cons,List.flatMap_nil,List.append_nil]
  by_cases e:r=n
  ·subst e
   refine ⟨(List.range r).flatMap f,List.perm_append_comm,?_⟩
   have:(List.range r).flatMap g=(List.range r).flatMap f:=by
    have hm:(List.range r).map g=(List.range r).map f:=List.map_congr_left fun k hk=>h k (by have:=List.mem_range.1 hk; omega)
    rw [List.flatMap_def,List.flatMap_def,hm]
   rw [this]
   exact List.perm_append_comm
  ·obtain ⟨rest,h1,h2⟩:=ih (by omega)
   refine ⟨rest ++ f n,?_,?_⟩
   ·rw [← List.append_assoc]; exact h1.append_right _
   ·rw [← List.append_assoc,h n (fun hh=>e hh.symm)]; exact h2.append_right _
def headsE (v:Nat→List Ee):List Qm.It:=(List.range 16).flatMap fun r=>headI (v r) r
def flatE (v:Nat→List Ee):List Ent:=(List.range 16).flatMap fun r=>(v r).map Ee.en
def updE (v:Nat→List Ee) (r:Nat) (l:List Ee) (k:Nat):List Ee:=if k=r then l else v k
theorem updE_same (v:Nat→List Ee) (r:Nat) (l:List Ee):updE v r l r=l:=by simp [updE]
theorem updE_other (v:Nat→List Ee) {r k:Nat} (l:List Ee) (h:k≠r):updE v r l k=v k:=by simp [updE,h]
theorem headsE_mem {v:Nat→List Ee} {x:Qm.It} (h:x ∈ headsE v):∃ r e l,r<16∧v r=e :: l∧x=(e.s,(r:Int)):=by
 obtain ⟨r,hr,hx⟩:=List.mem_flatMap.1 h
 cases hv:v r with
 | nil=>rw [hv] at hx; simp [headI] at hx
 | cons e l =>
  rw [hv] at hx
  exact ⟨r,e,l,List.mem_range.1 hr,hv,by simpa [headI] using hx⟩
theorem headsE_of {v:Nat→List Ee} {r:Nat} {e:Ee} {l:List Ee} (hr:r<16) (h:v r=e :: l):(e.s,(r:Int)) ∈ headsE v :=
 List.mem_flatMap.2 ⟨r,List.mem_range.2 hr,by rw [h]; simp [headI]⟩
theorem headsE_nil {v:Nat→List Ee} (h:headsE v=[]):∀ r,r<16→v r=[]:=fun r hr=>by
 cases hv:v r with
 | nil=>rfl
 | cons e l=>have:=headsE_of hr hv; rw [h] at this; cases this
theorem flatE_nil {v:Nat→List Ee} (h:∀ r,r<16→v r=[]):flatE v=[]:=by
 unfold flatE
 rw [List.flatMap_eq_nil_iff]
 intro r hr
 rw [h r (List.mem_range.1 hr)]
 rfl
theorem headsE_len (v:Nat→List Ee):(headsE v).length≤16:=by
 have:∀ n,((List.range n).flatMap fun r=>headI (v r) r).length≤n:=by
  intro n
  induction n with
  | zero=>simp
  | succ n ih =>
   rw [List.range_succ,List.flatMap_append,List.length_append]
   have:(headI (v n) n).length≤1:=by cases v n <;> simp [headI]
   simp only [List.flatMap_cons,List.flatMap_nil,List.append_nil]
   omega
 exact this 16
theorem flatE_step {v:Nat→List Ee} {r:Nat} {e:Ee} {l:List Ee} (hr:r<16) (h:v r=e :: l):(flatE v).Perm (e.en :: flatE (updE v r l)):=by
 obtain ⟨rest,h1,h2⟩:=flat_part (fun k=>(v k).map Ee.en) (fun k=>(updE v r l k).map Ee.en) hr (fun k hk=>by rw [updE_other _ _ hk])
 refine h1.trans ?_
 have h3:=(h2.cons e.en).symm
 rw [updE_same] at h3
 rw [h]
 exact h3
theorem headsE_step {v:Nat→List Ee} {r:Nat} {e:Ee} {l:List Ee} {m:List Qm.It} (hr:r<16) (h:v r=e :: l) (hx:((e.s,(r:Int)) :: m).Perm (headsE v)):(headI l r ++ m).Perm (headsE (updE v r l)):=by
 obtain ⟨rest,h1,h2⟩:=flat_part (fun k=>headI (v k) k) (fun k=>headI (updE v r l k) k) hr (fun k hk=>by rw [updE_other _ _ hk])
 rw [updE_same] at h2
 rw [h] at h1
 have h3:m.Perm rest:=(List.perm_cons _).1 (hx.trans h1)
 exact (h3.append_left _).trans h2.symm
theorem sorted_uniq {α:Type} (f:α→Qm.St):∀ (l m:List α),l.Perm m→(l.Pairwise fun a b=>Qm.ltS (f a) (f b))→(m.Pairwise fun a b=>Qm.ltS (f a) (f b))→l=m
 | [],m,hp,_,_=>(List.nil_perm.1 hp).symm
 | a :: l,[],hp,_,_=>by have:=hp.length_eq; simp at this
 | a :: l,b :: m,hp,h1,h2=>by
  have ha:=List.pairwise_cons.1 h1
  have hb:=List.pairwise_cons.1 h2
  by_cases e:a=b
  ·subst e
   rw [sorted_uniq f l m ((List.perm_cons a).1 hp) ha.2 hb.2]
  ·have h3:a ∈ m:=by
    rcases List.mem_cons.1 (hp.mem_iff.1 (List.mem_cons_self ..)) with h | h
    ·exact absurd h e
    ·exact h
   have h4:b ∈ l:=by
    rcases List.mem_cons.1 (hp.mem_iff.2 (List.mem_cons_self ..)) with h | h
    ·exact absurd h.symm e
    ·exact h
   exact absurd (Qm.ltS_trans (ha.1 b h4) (hb.1 a h3)) (Qm.ltS_irrefl _)
def Ris (v:Nat→List Ee):Prop:=(∀ r,r<16→(v r).Pairwise fun a b=>Qm.ltS a.s b.s)∧∀ r,r<16→∀ e ∈ v r,e.s.2=(r:Int)
structure Ms (v:Nat→List Ee) (lo:List Ee):Prop where
 ris:Ris v
 sorted:lo.Pairwise fun a b=>Qm.ltS a.s b.s
 le:∀ a ∈ lo,∀ r,r<16→∀ b ∈ v r,Qm.ltS a.s b.s
theorem Ms.start {v:Nat→List Ee} (h:Ris v):Ms v []:=⟨h,List.Pairwise.nil,fun _ h=>(by cases h)⟩
theorem Ms.step {v:Nat→List Ee} {lo:List Ee} {r:Nat} {e:Ee} {l:List Ee} (h:Ms v lo) (hr:r<16) (hv:v r=e :: l) (hl:∀ y,y ∈ headsE v→¬ Qm.ltI y (e.s,(r:Int))):Ms (updE v r l) (lo ++ [e]):=by
 have hin:∀ k,k<16→∀ b ∈ updE v r l k,b ∈ v k:=fun k hk b hb=>by
  by_cases ek:k=r
  ·subst ek; rw [updE_same] at hb; rw [hv]; exact List.mem_cons_of_mem _ hb
  ·rw [updE_other _ _ ek] at hb; exact hb
 have hlt:∀ k,k<16→∀ b ∈ updE v r l k,Qm.ltS e.s b.s:=fun k hk b hb=>by
  by_cases ek:k=r
  ·subst ek
   rw [updE_same] at hb
   have:=h.ris.1 k hr
   rw [hv] at this
   exact (List.pairwise_cons.1 this).1 b hb
  ·rw [updE_other _ _ ek] at hb
   cases hk2:v k with
   | nil=>rw [hk2] at hb; cases hb
   | cons e2 l2 =>
    have h1:=hl _ (headsE_of hk hk2)
    have h2:e.s.2=(r:Int):=h.ris.2 r hr e (by rw [hv]; exact List.mem_cons_self ..)
    have h3:e2.s.2=(k:Int):=h.ris.2 k hk e2 (by rw [hk2]; exact List.mem_cons_self ..)
    have h4:Qm.ltS e.s e2.s:=by
     rcases Qm.ltS_tri e.s e2.s with h5 | h5 | h5
     ·exact h5
     ·rw [h5] at h2; omega
     ·exact absurd (Or.inl h5) h1
    rw [hk2] at hb
    rcases List.mem_cons.1 hb with rfl | hb
    ·exact h4
    ·have:=h.ris.1 k hk
     rw [hk2] at this
     exact Qm.ltS_trans h4 ((List.pairwise_cons.1 this).1 b hb)
 refine ⟨⟨fun k hk=>?_,fun k hk b hb=>h.ris.2 k hk b (hin k hk b hb)⟩,?_,fun a ha k hk b hb=>?_⟩
 ·by_cases ek:k=r
  ·subst ek
   rw [updE_same]
   have:=h.ris.1 k hr
   rw [hv] at this
   exact (List.pairwise_cons.1 this).2
  ·rw [updE_other _ _ ek]; exact h.ris.1 k hk
 ·refine List.pairwise_append.2 ⟨h.sorted,List.pairwise_singleton _ _,fun a ha b hb=>?_⟩
  obtain rfl:b=e:=by simpa using hb
  exact h.le a ha r hr b (by rw [hv]; exact List.mem_cons_self ..)
 ·rcases List.mem_append.1 ha with ha | ha
  ·exact h.le a ha k hk b (hin k hk b hb)
  ·obtain rfl:a=e:=by simpa using ha
   exact hlt k hk b hb
open Go.RowKit
theorem slA_size (v:Nat→Value):(slA v).size=16:=by simp [slA,slL_length]
theorem slA_set (v:Nat→Value) (i:Nat) (u:Value) (h:i<16):(slA v).setIfInBounds i u=slA (fun k=>if k=i then u else v k):=by
 apply Array.ext_getElem?
 intro j
 rw [Array.getElem?_setIfInBounds,slA_size]
 by_cases hj:j<16
 ·rw [slA_get _ j hj,slA_get _ j hj]
  by_cases e:i=j
  ·subst e; simp; omega
  ·rw [if_neg e,if_neg (fun h=>e h.symm)]
 ·rw [if_neg (by omega),Array.getElem?_eq_none (by rw [slA_size]; omega),Array.getElem?_eq_none (by rw [slA_size]; omega)]
def updR (v:Nat→Er) (r:Nat) (e:Er) (k:Nat):Er:=if k=r then e else v k
theorem updR_same (v:Nat→Er) (r:Nat) (e:Er):updR v r e r=e:=by simp [updR]
theorem updR_other (v:Nat→Er) {r k:Nat} (e:Er) (h:k≠r):updR v r e k=v k:=by simp [updR,h]
theorem updR_v (v:Nat→Er) (r:Nat) (e:Er):(fun k=>(updR v r e k).v)=fun k=>if k=r then e.v else (v k).v:=by
 funext k
 by_cases h:k=r
 ·subst h; rw [updR_same,if_pos rfl]
 ·rw [updR_other _ _ h,if_neg h]
theorem updR_l (v:Nat→Er) (r:Nat) (e:Er):(fun k=>(updR v r e k).l)=updE (fun k=>(v k).l) r e.l:=by
 funext k
 by_cases h:k=r
 ·subst h; rw [updR_same,updE_same]
 ·rw [updR_other _ _ h,updE_other _ _ h]
structure EnS (w0:World) (R Q:Nat) (A G:Nat→Prop) (v:Nat→Er) (its:List Qm.It) (p:Option Addr) (c:Nat) (lo:List Ee) (w:World):Prop where
 rows:AgAt w R (slA fun r=>(v r).v)
 row:∀ r,r<16→EeS A w (v r)
 que:QO w Q G its
 own:w.ownsRow 0 71 14 (.slice p lo.length c) lo.length (eeCells lo)
 pa:∀ e,e ∈ lo→PaF A w e.y e.q e.c
 of:∀ b,(Value.slice p lo.length c).ownBlock=some b→¬ A b∧¬ G b∧b≠R∧w0.heap.size≤b
 ltA:∀ k,A k→k<w.heap.size
 ltG:∀ k,G k→k<w.heap.size∧w0.heap.size≤k
 sep:∀ k,A k→¬ G k∧k≠R
 rG:¬ G R
 rB:w0.heap.size≤R
 bel:Below w0.heap.size w0 w
section
variable {w0 w w':World} {R Q:Nat} {A G:Nat→Prop} {v:Nat→Er} {its its':List Qm.It} {p p':Option Addr} {c c':Nat} {lo:List Ee}
theorem EnS.lt (h:EnS w0 R Q A G v its p c lo w):R<w.heap.size:=AgAt.lt h.rows
theorem EnS.ownlt (h:EnS w0 R Q A G v its p c lo w) {b:Nat} (hb:(Value.slice p lo.length c).ownBlock=some b):b<w.heap.size:=(World.ownsRow.lt h.own b hb).2
theorem EnS.kept (h:EnS w0 R Q A G v its p c lo w) (hb:Below w.heap.size w w'):EnS w0 R Q A G v its p c lo w' :=
 ⟨AgAt.kept h.rows hb,fun r hr=>(h.row r hr).kept hb,h.que.below hb,own_belowK h.own hb,fun e he=>(h.pa e he).kept hb,h.of,fun k hk=>Nat.lt_of_lt_of_le (h.ltA k hk) hb.size,
  fun k hk=>⟨Nat.lt_of_lt_of_le (h.ltG k hk).1 hb.size,(h.ltG k hk).2⟩,h.sep,h.rG,h.rB,h.bel.trans (hb.mono h.bel.size)⟩
theorem EnS.queued (h:EnS w0 R Q A G v its p c lo w) (ht:Turns G w w') (hq:QO w' Q (ext G w w') its'):EnS w0 R Q A (ext G w w') v its' p c lo w':=by
 have hsz:=ht.size
 have hR:=h.lt
 have hB:=h.bel.size
 refine ⟨h.rows.block (ht.block _ hR h.rG),fun r hr=>(h.row r hr).turns ht fun k hk=>(h.sep k hk).1,hq,ht.own h.own fun g hg hh=>(h.of g hg).2.1 hh,fun e he=>(h.pa e he).turns ht fun k hk=>(h.sep k hk).1,fun b hb=>?_,fun k hk=>Nat.lt_of_lt_of_le (h.ltA k hk) hsz,fun k hk=>?_,fun k hk=>?_,?_,h.rB,?_⟩
 ·have h1:=h.of b hb
  have h2:=h.ownlt hb
  exact ⟨h1.1,fun hh=>hh.elim h1.2.1 fun hh=>by omega,h1.2.2⟩
 ·rcases hk with hk | hk
  ·exact ⟨Nat.lt_of_lt_of_le (h.ltG k hk).1 hsz,(h.ltG k hk).2⟩
  ·exact ⟨hk.2,by omega⟩
 ·have h1:=h.sep k hk
  have h2:=h.ltA k hk
  exact ⟨fun hh=>hh.elim h1.1 fun hh=>by omega,h1.2⟩
 ·exact fun hh=>hh.elim h.rG fun hh=>by omega
 ·exact h.bel.trans (ht.below (fun k _ hk=>(h.ltG k hk).2) hB)
theorem EnS.set (h:EnS w0 R Q A G v its p c lo w) {r:Nat} (hr:r<16) {e:Er} (he:EeS A w e):EnS w0 R Q A G (updR v r e) its p c lo (w.setCell ⟨R,r,none⟩ e.v):=by
 have ht:=set_turns R w r e.v
 have hz:(w.setCell ⟨R,r,none⟩ e.v).heap.size=w.heap.size:=by simp
 have hA:∀ k,A k→¬ k=R:=fun k hk=>(h.sep k hk).2
 refine ⟨?_,fun k hk=>?_,h.que.turns ht fun k hk hh=>h.rG (hh ▸ hk),ht.own h.own fun g hg hh=>(h.of g hg).2.2.1 hh,fun e he=>(h.pa e he).turns ht hA,h.of,fun k hk=>by rw [hz]; exact h.ltA k hk,fun k hk=>by rw [hz]; exact h.ltG k hk,h.sep,h.rG,h.rB,h.bel.setCell (p:=⟨R,r,none⟩) h.rB _⟩
 ·have:=AgAt.put h.rows r e.v
  rw [slA_set _ _ _ hr,← updR_v] at this
  exact this
 ·by_cases ek:k=r
  ·subst ek; rw [updR_same]; exact he.turns ht hA
  ·rw [updR_other _ _ ek]; exact (h.row k hk).turns ht hA
theorem EnS.more (h:EnS w0 R Q A G v its p c lo w) (hb:Below w.heap.size w w'):EnS w0 R Q (fun k=>A k∨(w.heap.size≤k∧k<w'.heap.size)) G v its p c lo w':=by
 have h':=h.kept hb
 have hR:=h.lt
 refine ⟨h'.rows,fun r hr=>(h'.row r hr).mono fun _ hk=>Or.inl hk,h'.que,h'.own,fun e he=>(h'.pa e he).mono fun _ _ hk=>Or.inl hk,fun b hb2=>?_,fun k hk=>?_,h'.ltG,fun k hk=>?_,h'.rG,h'.rB,h'.bel⟩
 ·have h1:=h.of b hb2
  have h2:=h.ownlt hb2
  exact ⟨fun hh=>hh.elim h1.1 fun hh=>by omega,h1.2⟩
 ·rcases hk with hk | hk
  ·exact h'.ltA k hk
  ·exact hk.2
 ·rcases hk with hk | hk
  ·exact h.sep k hk
  ·exact ⟨fun hh=>by have:=(h.ltG k hh).1; omega,by omega⟩
theorem EnS.push (h:EnS w0 R Q A G v its p c lo w) {e:Ee} (he:PaF A w e.y e.q e.c)
  (ho:w'.ownsRow 0 71 14 (.slice p' (lo.length+1) c') (lo.length+1) (eeCells lo ++ eeL e)) (hg:w.grownBy w' (Value.slice p lo.length c).ownBlock)
  (hw:∀ g,(Value.slice p' (lo.length+1) c').ownBlock=some g→(Value.slice p lo.length c).ownBlock=some g∨w.heap.size≤g):EnS w0 R Q A G v its p' c' (lo ++ [e]) w':=by
 have hl:(lo ++ [e]).length=lo.length+1:=by simp
 have ht:=Turns.of_grown hg
 have hsz:=ht.size
 have hB:=h.bel.size
 have hA:∀ k,A k→¬ (Value.slice p lo.length c).ownBlock=some k:=fun k hk hh=>(h.of k hh).1 hk
 have hG:∀ k,G k→¬ (Value.slice p lo.length c).ownBlock=some k:=fun k hk hh=>(h.of k hh).2.1 hk
 have hR:=h.lt
 refine ⟨h.rows.block (ht.block _ hR fun hh=>(h.of _ hh).2.2.1 rfl),fun r hr=>(h.row r hr).turns ht hA,h.que.turns ht hG,?_,fun x hx=>?_,fun b hb=>?_,fun k hk=>Nat.lt_of_lt_of_le (h.ltA k hk) hsz,fun k hk=>⟨Nat.lt_of_lt_of_le (h.ltG k hk).1 hsz,(h.ltG k hk).2⟩,h.sep,h.rG,h.rB,h.bel.trans (ht.below (fun k _ hk=>(h.of k hk).2.2.2) hB)⟩
 ·rw [hl,eeCells_append,eeCells_sing]; exact ho
 ·rcases List.mem_append.1 hx with hx | hx
  ·exact (h.pa x hx).turns ht hA
  ·obtain rfl:x=e:=by simpa using hx
   exact he.turns ht hA
 ·rw [hl] at hb
  rcases hw b hb with h1 | h1
  ·exact h.of b h1
  ·exact ⟨fun hh=>by have:=h.ltA b hh; omega,fun hh=>by have:=(h.ltG b hh).1; omega,by omega,by omega⟩
end
def entA (L:Lg):List Ent:=(List.range 16).flatMap fun r=>entR (L.row r)
theorem entA_len (L:Lg) {r:Nat} (hr:r<16):(entR (L.row r)).length≤(entA L).length:=by
 obtain ⟨rest,h,-⟩:=flat_part (fun r=>entR (L.row r)) (fun r=>entR (L.row r)) hr fun _ _=>rfl
 have:=h.length_eq
 unfold entA
 rw [this,List.length_append]
 omega
structure RowsOk (L:Lg):Prop where
 ris:∀ r,r<16→(entR (L.row r)).Pairwise fun a b=>Qm.ltS a.1 b.1
 own:∀ r,r<16→∀ e ∈ entR (L.row r),e.1.2=(r:Int)
def EnOut (L:Lg) (w:World) (e:Ending) (w':World):Prop :=
 ∃ p c lo,e=.returned (.slice p lo.length c)∧(lo.map Ee.en).Perm (entA L)∧(RowsOk L→(lo.map Ee.en).Pairwise fun a b=>Qm.ltS a.1 b.1)∧EeS (fun _=>True) w' ⟨p,c,lo⟩∧(p=none→c=0)∧Below w.heap.size w w'
open Go.RowKit
abbrev itA (x:Qm.It):Array Value:=#[.int .i64 x.1.1,.int .i64 x.1.2,.int .i64 x.2]
theorem itT:AgT 115 3:=⟨⟨_,Tryz.underlying115⟩,by kernel_rfl⟩
theorem itA_one (x:Qm.It):(itA x).all (·.oneCell')=true:=all_oneCell_toArray (cs:=[.int .i64 x.1.1,.int .i64 x.1.2,.int .i64 x.2]) (by
 intro v hv
 simp only [List.mem_cons,List.not_mem_nil,or_false] at hv
 rcases hv with rfl | rfl | rfl <;> rfl)
theorem EeS.monoL {F G:Nat→Prop} {w:World} {e:Er} (h:EeS F w e) (hm:∀ k,k<w.heap.size→F k→G k):EeS G w e :=
 ⟨h.rd,fun h0 a ha=>by
  obtain ⟨b,o,e',hb⟩:=h.rd.addr (by rw [eeCells_length]; exact Nat.mul_pos h0 (by decide))
  rw [ha] at e'; cases e'
  exact hm _ hb (h.of h0 _ ha),h.cap,fun x hx=>(h.pa x hx).mono hm⟩
theorem exec_tail_ee {a:Act} {w:World} {o:Oper} {x:Operand} (ho:o.op=.slice 66 x (some (.const (.int .i64 1))) none none) {b s n c:Nat} (hx:a.eval x=.slice (some ⟨b,s,none⟩) n c) (hn:1≤n) (hc:n≤c) :
  (execOp a.eval o).run Tryz.prog w=.ok (.value (.slice (tlq b s c) (n - 1) (c - 1))) w:=by
 have h1:a.eval (.const (.int .i64 1))=.int .i64 1:=rfl
 unfold execOp
 simp only [ho,hx,h1,Option.map_some,Option.map_none,Sem.run_bind,run_tail_ee w b s n c hn hc,Result.andThen_ok,Sem.run_pure]
theorem wpList_build_ee {w:World} {ops:Array Oper} {rest:List Oper} {o:Oper} {a:Act} {Q:Exit→Act→World→Prop} (hgd:o.guard=none) (x:Operand) (ho:o.op=.buildSlice 66 1 #[(0,x)]) (e:Ee) (hx:a.eval x=.agg (eeA e))
  (h:wpList Tryz.prog ops Q rest (a.put o.dst (.slice (some ⟨w.heap.size,0,none⟩) 1 1)) (w.alloc (.cells (eeA e) 71))):wpList Tryz.prog ops Q (o :: rest) a w :=
 wpList_plain hgd fun _ hK=>wp_build_ee x ho e hx (hK _ _ h)
theorem own_rd' {w:World} {p:Option Addr} {c n:Nat} {lo:List Ee} (h:w.ownsRow 0 71 14 (.slice p n c) n (eeCells lo)):Rd w p (eeCells lo)∧n≤c∧(p=none→c=0):=by
 obtain ⟨p2,c2,e,h1,h2,-,h3,-⟩:=own_rd h
 obtain ⟨rfl,rfl⟩:p=p2∧c=c2:=by cases e; exact ⟨rfl,rfl⟩
 exact ⟨h1,h2,h3⟩
theorem headsE_set {v:Nat→List Ee} {r:Nat} {l:List Ee} {its:List Qm.It} (hr:r<16) (h:v r=[]) (hp:its.Perm (headsE v)):(headI l r ++ its).Perm (headsE (updE v r l)):=by
 obtain ⟨rest,h1,h2⟩:=flat_part (fun k=>headI (v k) k) (fun k=>headI (updE v r l k) k) hr (fun k hk=>by rw [updE_other _ _ hk])
 rw [updE_same] at h2
 rw [h] at h1
 exact ((hp.trans h1).append_left _).trans h2.symm
def BxOk (w0:World) (R:Nat) (A G:Nat→Prop) (own:Value) (b:Nat) (_w:World):Prop:=¬ A b∧¬ G b∧b≠R∧own.ownBlock≠some b∧w0.heap.size≤b
section
variable {w0 w w':World} {R Q:Nat} {A G:Nat→Prop} {v:Nat→Er} {its its':List Qm.It} {p p':Option Addr} {c c':Nat} {lo:List Ee}
theorem EnS.boxed {b:Nat} (h:EnS w0 R Q A G v its p c lo w) (ht:Turns (fun k=>k=b) w w') (hb:BxOk w0 R A G (.slice p lo.length c) b w):EnS w0 R Q A G v its p c lo w':=by
 have hsz:=ht.size
 have hB:=h.bel.size
 have hA:∀ k,A k→¬ k=b:=fun k hk e=>hb.1 (e ▸ hk)
 exact ⟨h.rows.block (ht.block _ h.lt fun e=>hb.2.2.1 e.symm),fun r hr=>(h.row r hr).turns ht hA,h.que.turns ht fun k hk e=>hb.2.1 (e ▸ hk),ht.own h.own fun g hg e=>hb.2.2.2.1 (e ▸ hg),fun e he=>(h.pa e he).turns ht hA,h.of,fun k hk=>Nat.lt_of_lt_of_le (h.ltA k hk) hsz,fun k hk=>⟨Nat.lt_of_lt_of_le (h.ltG k hk).1 hsz,(h.ltG k hk).2⟩,h.sep,h.rG,h.rB,h.bel.trans (ht.below (fun k _ hk=>by rw [hk]; exact hb.2.2.2.2) hB)⟩
end
structure RoI (L:Lg) (v:Nat→List Ee) (lo:List Ee) (ok:Bool) (x:Qm.It) (m:List Qm.It):Prop where
 perm:(lo.map Ee.en ++ flatE v).Perm (entA L)
 its:(if ok=true then x :: m else m).Perm (headsE v)
 least:ok=true→∀ y,y ∈ headsE v→¬ Qm.ltI y x
 no:ok=false→headsE v=[]
 ms:RowsOk L→Ms v lo
theorem RoI.out {L:Lg} {v:Nat→List Ee} {lo:List Ee} {x:Qm.It} {m:List Qm.It} (h:RoI L v lo false x m):(lo.map Ee.en).Perm (entA L)∧(RowsOk L→(lo.map Ee.en).Pairwise fun a b=>Qm.ltS a.1 b.1):=by
 have h1:=flatE_nil (headsE_nil (h.no rfl))
 have h2:=h.perm
 rw [h1,List.append_nil] at h2
 exact ⟨h2,fun hr=>List.pairwise_map.2 ((h.ms hr).sorted)⟩
theorem RoI.at {L:Lg} {v:Nat→List Ee} {lo:List Ee} {x:Qm.It} {m:List Qm.It} (h:RoI L v lo true x m):∃ r e l,r<16∧v r=e :: l∧x=(e.s,(r:Int)) :=
 headsE_mem (h.its.mem_iff.1 (by simp))
theorem RoI.len {L:Lg} {v:Nat→List Ee} {lo:List Ee} {ok:Bool} {x:Qm.It} {m:List Qm.It} (h:RoI L v lo ok x m):lo.length+(flatE v).length=(entA L).length:=by
 have:=h.perm.length_eq
 simpa using this
theorem RoI.step {L:Lg} {v:Nat→List Ee} {lo:List Ee} {r:Nat} {e:Ee} {l:List Ee} {m:List Qm.It} (h:RoI L v lo true (e.s,(r:Int)) m) (hr:r<16) (hv:v r=e :: l)
  (ok:Bool) (y:Qm.It) (m':List Qm.It) (hy:if ok=true then (y :: m').Perm (headI l r ++ m)∧Qm.Least y (headI l r ++ m) else headI l r ++ m=[]∧m'=[]):RoI L (updE v r l) (lo ++ [e]) ok y m':=by
 have hp:=headsE_step hr hv (h.its)
 refine ⟨?_,?_,?_,?_,fun hh=>(h.ms hh).step hr hv (h.least rfl)⟩
 ·rw [List.map_append,List.append_assoc]
  refine List.Perm.trans (List.Perm.append_left _ ?_) h.perm
  exact (flatE_step hr hv).symm
 ·cases ok with
  | true=>exact (hy.1).trans hp
  | false =>
   simp only [Bool.false_eq_true,if_false] at hy ⊢
   rw [hy.2,← hy.1]
   exact hp
 ·rintro rfl z hz
  exact (hy.2.perm hp).2 z hz
 ·rintro rfl
  simp only [Bool.false_eq_true,if_false] at hy
  rw [hy.1] at hp
  exact List.perm_nil.1 hp.symm
theorem RoI.start {L:Lg} {v:Nat→List Ee} {its:List Qm.It} (hv:∀ r,r<16→(v r).map Ee.en=entR (L.row r)) (hp:its.Perm (headsE v))
  (ok:Bool) (y:Qm.It) (m':List Qm.It) (hy:if ok=true then (y :: m').Perm its∧Qm.Least y its else its=[]∧m'=[]):RoI L v [] ok y m':=by
 have hf:flatE v=entA L:=by
  unfold flatE entA
  rw [List.flatMap_def,List.flatMap_def,List.map_congr_left fun k hk=>hv k (List.mem_range.1 hk)]
 refine ⟨by rw [hf]; exact List.Perm.refl _,?_,?_,?_,fun hh=>Ms.start ⟨fun r hr=>?_,fun r hr e he=>?_⟩⟩
 ·cases ok with
  | true=>exact (hy.1).trans hp
  | false =>
   simp only [Bool.false_eq_true,if_false] at hy ⊢
   rw [hy.2,← hy.1]
   exact hp
 ·rintro rfl z hz
  exact (hy.2.perm hp).2 z hz
 ·rintro rfl
  simp only [Bool.false_eq_true,if_false] at hy
  rw [hy.1] at hp
  exact List.perm_nil.1 hp.symm
 ·have:=hh.ris r hr
  rw [← hv r hr] at this
  exact (List.pairwise_map (f:=Ee.en) (R:=fun a b=>Qm.ltS a.1 b.1)).1 this
 ·exact hh.own r hr e.en (by rw [← hv r hr]; exact List.mem_map.2 ⟨e,he,rfl⟩)
theorem popped_or {q:Nat} {F:Nat→Prop} {l:List Qm.It} {w w':World} {e:Ending} (h:QPopped q F l w e w') :
  ∃ ok y m',e=.returned (.tuple #[.agg (itA y),.bool ok])∧QO w' q (ext F w w') m'∧Turns F w w'∧(if ok=true then (y :: m').Perm l∧Qm.Least y l else l=[]∧m'=[]):=by
 obtain ⟨h | ⟨x,m,h1,h2,h3,h4⟩,ht⟩:=h
 ·obtain ⟨h1,h2,h3⟩:=h
  exact ⟨false,((0,0),0),[],h2,h3,ht,by simp [h1]⟩
 ·exact ⟨true,x,m,h3,h4,ht,by simp [h1,h2]⟩
theorem lentries_any {l S M:Nat} {m:Sm} {F:Nat→Prop} (w:World) (h:Lo w l S M m F) (hn:(entA m.lg).length≤1500) :
  Calls Tryz.prog 25 #[.pointer (some ⟨l,0,none⟩)] w (EnOut m.lg w):=by
 obtain ⟨i0,hi,hz0,hz1,hz2⟩:=info_parts einfo_ee
 have HO:=Hi (lours_yes h.cell)
 have HL:=Hi h
 have HNE:=Hi hn
 have HBA:=Hi ((Below.refl w.heap.size w).alloc (Nat.le_refl _) (.cells (slA fun _=>.slice none 0 0) 109))
 have HRA:=Hi (AgAt.new w (slA fun _=>.slice none 0 0) 109)
 have HNEW:=Hi (new_any none 0 [] (w.alloc (.cells (slA fun _=>.slice none 0 0) 109)) (Rd.nil _ _) (fun _=>rfl) (by decide) (Nat.le_refl _))
 have HNR:=Hi (fun (r:Nat) (hr:r<16)=>(show (entR (m.lg.row r)).length≤5000 from by
  have:=entA_len m.lg hr
  omega))
 clear h hn
 go_enter Tryz.func25,Tryz.ntmps25
 go_wp2_with fail
 refine HO.out.mono ?_
 rintro e w1 ⟨rfl,rfl⟩
 go_wp2_with fail
 refine HNEW.out.mono ?_
 rintro e w2 ⟨Q,rfl,hq,hb2⟩
 have T0:=Hi (show EnS w w.heap.size Q (fun _=>False) (fun k=>(w.alloc (.cells (slA fun _=>.slice none 0 0) 109)).heap.size≤k∧k<w2.heap.size) (fun _=>⟨none,0,[]⟩) [] none 0 [] w2 from by
  have hz:(w.alloc (.cells (slA fun _=>.slice none 0 0) 109)).heap.size=w.heap.size+1:=by simp
  refine ⟨AgAt.kept HRA.out hb2,fun r hr=>EeS.nil _ _,hq,World.ownsRow_nil _ _ _ _,fun _ h=>(by cases h),fun _ h=>(by cases h),fun _ h=>h.elim,fun k hk=>⟨hk.2,by omega⟩,fun _ h=>h.elim,fun h=>by omega,Nat.le_refl _,HBA.out.trans (hb2.mono (by omega))⟩)
 clear hq hb2
 go_wp2_with fail
 go_loopw [14] (fun i wr=>∃ (k:Nat) (A G:Nat→Prop) (v:Nat→Er) (its:List Qm.It),k≤16∧i=.int .i64 (k:Int)∧EnS w w.heap.size Q A G v its none 0 [] wr∧(∀ r,r<k→(v r).l.map Ee.en=entR (m.lg.row r))∧(∀ r,k≤r→(v r).l=[])∧its.Perm (headsE fun r=>(v r).l)) (fun i _=>16 - (intOf i).toNat)
 case atStart=>exact ⟨0,_,_,_,_,by omega,rfl,T0.out,fun r hr=>by omega,fun _ _=>rfl,by exact List.Perm.refl _⟩
 case round =>
  clear T0
  obtain ⟨k,A,G,v,its,hk,rfl,hT,hv1,hv2,hp⟩:=hrel
  have T:=Hi hT
  have HV1:=Hi hv1
  have HV2:=Hi hv2
  have HP:=Hi hp
  have HIL:=Hi (show its.length≤16 from by rw [hp.length_eq]; exact headsE_len _)
  clear hT hv1 hv2 hp
  by_cases hlt:k<16
  ·have y0:=(HL.out.kept T.out.bel).cell
   have HEN:=Hi (entries_any k wr (HL.out.kept T.out.bel).st HL.out.ok hlt (HNR.out k hlt))
   have hri:(k:Int)<16:=by omega
   go_wp2_with fail
   refine HEN.out.mono ?_
   rintro e w3 ⟨p3,c3,l3,rfl,hm3,hr3,hb3⟩
   have T3:=Hi (T.out.more hb3)
   have HE3:=Hi (show EeS (fun k=>A k∨(wr.heap.size≤k∧k<w3.heap.size)) w3 ⟨p3,c3,l3⟩ from hr3.eeS.monoL fun k hk h=>Or.inr ⟨h,hk⟩)
   have HM3:=Hi hm3
   clear hm3 hr3 hb3 y0 T
   have yR:=AgAt.cell T3.out.rows k
   rw [slA_get _ _ hlt] at yR
   have yF:=AgAt.free T3.out.rows k
   have T4:=Hi (T3.out.set hlt HE3.out)
   have HE4:=Hi (T4.out.row k hlt)
   rw [updR_same] at HE4
   have y4:=AgAt.cell T4.out.rows k
   rw [slA_get _ _ hlt,updR_same] at y4
   go_upto_region 10 with fail
   have hVe:Er.v ⟨p3,c3,l3⟩=.slice p3 l3.length c3:=rfl
   rw [hVe] at T4 HE4 y4
   clear yR yF T3 HE3
   generalize w3.setCell ⟨w.heap.size,k,none⟩ (.slice p3 l3.length c3)=w4 at *
   have HPH:=Hi (pushHead_any Q G its ⟨p3,c3,l3⟩ k w4 T4.out.que HE4.out (by have:=HIL.out; omega))
   rw [hVe] at HPH
   clear hVe
   go_wp2_with fail
   refine HPH.out.mono ?_
   rintro e w5 ⟨rfl,hq5,ht5⟩
   have T5:=Hi (T4.out.queued ht5 hq5)
   have HV1':=Hi (show ∀ r,r<k+1→(updR v k ⟨p3,c3,l3⟩ r).l.map Ee.en=entR (m.lg.row r) from fun r hr=>by
    by_cases e:r=k
    ·subst e; rw [updR_same]; exact HM3.out
    ·rw [updR_other _ _ e]; exact HV1.out r (by omega))
   have HV2':=Hi (show ∀ r,k+1≤r→(updR v k ⟨p3,c3,l3⟩ r).l=[] from fun r hr=>by
    rw [updR_other _ _ (by omega)]; exact HV2.out r (by omega))
   have HP':=Hi (show (headI l3 k ++ its).Perm (headsE fun r=>(updR v k ⟨p3,c3,l3⟩ r).l) from by
    rw [updR_l]
    exact headsE_set hlt (HV2.out k (Nat.le_refl _)) HP.out)
   clear hq5 ht5 T4 HE4 y4
   go_wp2
   go_roundw
   case rel=>exact ⟨k+1,_,_,_,_,by omega,by go_num,T5.out,HV1'.out,HV2'.out,HP'.out⟩
   case measure=>simp [intOf]; omega
  ·obtain rfl:k=16:=by omega
   have HPOP:=Hi (qpop_any Q _ _ wr T.out.que)
   go_wp2_with fail
   refine HPOP.out.mono ?_
   intro e9 w9 hp9
   obtain ⟨ok9,y9,m9,rfl,hq9,ht9,hc9⟩:=popped_or hp9
   have T9:=Hi (T.out.queued ht9 hq9)
   have HRL:=Hi (RoI.start (L:=m.lg) (fun r hr=>HV1.out r hr) HP.out ok9 y9 m9 hc9)
   clear hp9 hq9 ht9 hc9 HPOP T HV1 HV2 HP HIL
   go_wp2_with (refine wpList_store_newag (A:=itA y9) itT rfl _ _ rfl rfl _ rfl rfl rfl (itA_one _) ?_; intro w10 hv10 hb10)
   have T10:=Hi (T9.out.kept hb10)
   have HX10:=Hi hv10
   have HBX10:=Hi (show BxOk w w.heap.size A (ext G wr w9) (.slice none 0 0) w9.heap.size w10 from ⟨fun h=>Nat.lt_irrefl _ (T9.out.ltA _ h),fun h=>Nat.lt_irrefl _ (T9.out.ltG _ h).1,fun h=>by have:=T9.out.lt; omega,fun h=>(by cases h),T9.out.bel.size⟩)
   have HGG:=Hi (show (flatE fun r=>(v r).l).length<(entA m.lg).length+1 from by have:=HRL.out.len; simp at this; omega)
   clear hv10 hb10 T9
   go_wp2_with fail
   go_loopg [7,8,4] ((entA m.lg).length+1) (fun g bxv okv all wr=>∃ (A G:Nat→Prop) (v:Nat→Er) (its:List Qm.It) (p:Option Addr) (c:Nat) (lo:List Ee) (ok:Bool) (x:Qm.It) (bx:Nat),bxv=.pointer (some ⟨bx,0,none⟩)∧okv=.bool ok∧all=.slice p lo.length c∧EnS w w.heap.size Q A G v its p c lo wr∧AgAt wr bx (itA x)∧BxOk w w.heap.size A G (.slice p lo.length c) bx wr∧RoI m.lg (fun r=>(v r).l) lo ok x its∧(flatE fun r=>(v r).l).length<g)
   case atStart=>exact ⟨_,_,_,_,none,0,[],ok9,y9,w9.heap.size,rfl,rfl,rfl,T10.out,HX10.out,HBX10.out,HRL.out,HGG.out⟩
   case round =>
    clear T10 HX10 HBX10 HRL HGG
    obtain ⟨A,G,v,its,p,c,lo,ok,x,bx,rfl,rfl,rfl,hT,hx,hbx,hro,hg⟩:=hrel
    obtain ⟨g1,rfl⟩:∃ g1,gk=g1+1:=⟨gk - 1,by omega⟩
    have T:=Hi hT
    have HX:=Hi hx
    have HBX:=Hi hbx
    have HRO:=Hi hro
    have HG:=Hi hg
    clear hT hx hbx hro hg
    cases ok with
    | false =>
     have HE:=Hi (show EnOut m.lg w (.returned (.slice p lo.length c)) wr from ⟨p,c,lo,rfl,HRO.out.out.1,HRO.out.out.2,⟨(own_rd' T.out.own).1,fun _ _ _=>trivial,(own_rd' T.out.own).2.1,fun x hx=>(T.out.pa x hx).mono fun _ _ _=>trivial⟩,(own_rd' T.out.own).2.2,T.out.bel⟩)
     go_wp2
     go_ret
     exact HE.out
    | true =>
     obtain ⟨r,e,ls,hr,hvl,rfl⟩:=HRO.out.at
     have HVL:=Hi (show (fun r=>(v r).l) r=e :: ls from hvl)
     have hes:=T.out.row r hr
     obtain ⟨q,cr,hvr⟩:∃ q cr,v r=⟨q,cr,e :: ls⟩:=⟨(v r).q,(v r).c,by rw [← hvl]⟩
     rw [hvr] at hes
     obtain ⟨b,o,hqe,-⟩:=hes.rd.addr (by rw [eeCells_length]; exact Nat.mul_pos (Nat.succ_pos _) (by decide))
     dsimp only at hqe
     subst hqe
     have HES:=Hi hes
     obtain ⟨n,hn⟩:∃ n,(e :: ls).length=n:=⟨_,rfl⟩
     have HNL:=Hi (show ls.length+1=n from hn)
     have HNC:=Hi (show 1≤n∧n≤cr from ⟨by have:=HNL.out; omega,by have:=hes.cap; dsimp only at this; omega⟩)
     have HVR:=Hi (show (v r).v=.slice (some ⟨b,o,none⟩) n cr from by rw [hvr]; unfold Er.v; dsimp only; rw [hn])
     have HIL:=Hi (show its.length≤15 from by have h1:=HRO.out.its.length_eq; have h2:=headsE_len fun r=>(v r).l; simp at h1; omega)
     have HLL:=Hi (show lo.length≤1500 from by have:=HRO.out.len; have:=HNE.out; omega)
     have HRI:=Hi (show (r:Int)<16 from by omega)
     have y2:=AgAt.cell HX.out 2
     have yR:=AgAt.cell T.out.rows r
     rw [slA_get _ _ hr,HVR.out] at yR
     have hb1:=(Below.refl wr.heap.size wr).alloc (Nat.le_refl _) (.cells (eeA e) 71)
     have T1:=Hi (T.out.kept hb1)
     have HX1:=Hi (AgAt.kept HX.out hb1)
     have HE1:=Hi (HES.out.kept hb1)
     have HRW:=Hi (rd_ee_one wr e 71)
     have hri:=HRI.out
     have hn1:=HNC.out.1
     clear hes hvl hvr hn hb1
     go_upto_region 17 with (first | (refine wpList_load_ee rfl _ rfl b o rfl e ls HES.out.rd ?_) | (refine wpList_build_ee rfl _ rfl e rfl ?_) | (at_builtin; refine wpList_append_k rfl _ _ 66 rfl 0 71 i0 _ 14 144 Tryz.underlying66 hi hz0 hz1 (by decide) hz2 (by decide) rfl _ lo.length (eeCells lo) rfl T1.out.own _ 1 1 (eeL e) rfl rfl HRW.out (fun h=>by cases h) (eeL_one _) (by have:=HLL.out; omega) (Nat.zero_le _) ?_; intro p4 c4 w4 ho4 hg4 hw4))
     have HLE0:=Hi (show (lo ++ [e]).length=lo.length+1 from by simp)
     have T4:=Hi (T1.out.push (HE1.out.pa e (List.mem_cons_self ..)) ho4 hg4 hw4)
     have HX4:=Hi (HX1.out.block (hg4.block _ (AgAt.lt HX1.out) fun h=>HBX.out.2.2.2.1 h.symm))
     have HBX4:=Hi (show BxOk w w.heap.size A G (.slice p4 (lo ++ [e]).length c4) bx w4 from ⟨HBX.out.1,HBX.out.2.1,HBX.out.2.2.1,fun h=>by
      rw [HLE0.out] at h
      rcases hw4 _ h with h1 | h1
      ·exact HBX.out.2.2.2.1 h1
      ·have:=AgAt.lt HX1.out; omega,HBX.out.2.2.2.2⟩)
     have HE4:=Hi (HE1.out.turns (Turns.of_grown hg4) fun k hk hh=>(T1.out.of k hh).1 hk)
     clear ho4 hg4 hw4 HX1 HX HE1 HES T1 T HBX y2 yR
     refine wp_region_held_drew (S:=fun W=>AgAt W bx (itA (e.s,(r:Int)))) (by kernel_rfl) (show AgAt w4.drew bx (itA (e.s,(r:Int))) from HX4.out) (fun hS=>?_)
     have T:=Hi (T4.out.kept (Below.drew (Below.refl _ _)))
     have HES:=Hi (HE4.out.kept (Below.drew (Below.refl _ _)))
     have HBX:=HBX4
     clear T4 HE4 HX4 HBX4
     generalize w4.drew=wd at *
     refine tX 0 rfl hS ?_
     refine tK 1 (v:=?_) rfl ?_ hS ?_
     rotate_left
     ·intro W hSW
      have y2:=AgAt.cell hSW 2
      go_simp
      all_goals with_reducible rfl
     refine tX 2 rfl hS ?_
     go_simp
     refine tK 3 (v:=.slice (tlq b o cr) (n - 1) (cr - 1)) rfl (fun W hSW=>exec_tail_ee rfl rfl HNC.out.1 HNC.out.2) hS ?_
     refine tK 4 (v:=?_) rfl ?_ hS ?_
     rotate_left
     ·intro W hSW
      have hri:=HRI.out
      go_simp
      all_goals with_reducible rfl
     go_simp
     refine rD 5 rfl (fun K hK=>?_)
     have yR:=AgAt.cell T.out.rows r
     rw [slA_get _ _ hr,HVR.out] at yR
     have yF:=AgAt.free T.out.rows r
     have hri:=HRI.out
     go_simp
     have hSn:AgAt (wd.setCell ⟨w.heap.size,r,none⟩ (.slice (tlq b o cr) (n - 1) (cr - 1))) bx (itA (e.s,(r:Int))):=hS.block (heap_setCell_other _ _ _ _ (fun h=>HBX.out.2.2.1 h))
     refine hK.out _ _ hSn (fun hS=>?_)
     clear hK K yR yF hSn
     refine wpAnyH_done (by kernel_rfl) ?_ _
     go_simp
     have HE5:=Hi (show EeS A wd ⟨tlq b o cr,cr - 1,ls⟩ from HES.out.tail)
     have T5:=Hi (T.out.set hr HE5.out)
     have HV5:=Hi (show (Er.v ⟨tlq b o cr,cr - 1,ls⟩)=.slice (tlq b o cr) (n - 1) (cr - 1) from by unfold Er.v; dsimp only; rw [show ls.length=n - 1 from by have:=HNL.out; omega])
     rw [HV5.out] at T5
     have HE6:=Hi (show EeS A (wd.setCell ⟨w.heap.size,r,none⟩ (.slice (tlq b o cr) (n - 1) (cr - 1))) ⟨tlq b o cr,cr - 1,ls⟩ from by
      have:=T5.out.row r hr
      rw [updR_same] at this
      exact this)
     have HX6:=Hi hS
     generalize wd.setCell ⟨w.heap.size,r,none⟩ (.slice (tlq b o cr) (n - 1) (cr - 1))=w6 at *
     clear hS T HE5 HES
     go_upto_region 18 with fail
     refine wp_region_held_drew (S:=fun W=>AgAt W bx (itA (e.s,(r:Int)))) (by kernel_rfl) (show AgAt w6.drew bx (itA (e.s,(r:Int))) from HX6.out) (fun hS=>?_)
     have T:=Hi (T5.out.kept (Below.drew (Below.refl _ _)))
     have HE7:=Hi (HE6.out.kept (Below.drew (Below.refl _ _)))
     clear T5 HE6 HX6
     generalize w6.drew=wd at *
     have HPH:=Hi (pushHead_any Q G its ⟨tlq b o cr,cr - 1,ls⟩ r wd T.out.que HE7.out (by have:=HIL.out; omega))
     rw [HV5.out] at HPH
     refine tX 0 rfl hS ?_
     refine tX 1 rfl hS ?_
     go_simp
     refine tK 2 (v:=.slice (tlq b o cr) (n - 1) (cr - 1)) rfl (fun W hSW=>exec_tail_ee rfl rfl HNC.out.1 HNC.out.2) hS ?_
     refine tX 3 rfl hS ?_
     refine tK 4 (v:=?_) rfl ?_ hS ?_
     rotate_left
     ·intro W hSW
      have y2:=AgAt.cell hSW 2
      go_simp
      all_goals with_reducible rfl
     go_simp
     refine rD 5 rfl (fun K hK=>?_)
     go_simp
     go_wp2_with ((go_at_call 60; refine HPH.out.mono ?_; rintro e7 w7 ⟨rfl,hq7,ht7⟩))
     have T7:=Hi (T.out.queued ht7 hq7)
     have HX7:=Hi (hS.block (ht7.block _ (AgAt.lt hS) HBX.out.2.1))
     refine hK.out _ _ HX7.out (fun hS=>?_)
     clear hK K hq7 ht7
     refine wpAnyH_done (by kernel_rfl) ?_ _
     go_simp
     clear hS T
     go_wp2_with (first | (refine wpList_load_ag itT (by kernel_rfl) _ rfl _ rfl (A:=itA (e.s,(r:Int))) rfl HX7.out ?_) | (refine wpList_store_newag (A:=itA (e.s,(r:Int))) itT rfl _ _ rfl rfl _ rfl rfl rfl (itA_one _) ?_; intro w8 hv8 hb8))
     have T8:=Hi (T7.out.kept hb8)
     have HX8:=Hi hv8
     have HL7:=Hi (show ¬ A w7.heap.size∧¬ ext G wd w7 w7.heap.size∧w7.heap.size≠w.heap.size∧(Value.slice p4 (lo ++ [e]).length c4).ownBlock≠some w7.heap.size∧w.heap.size≤w7.heap.size from
      ⟨fun h=>Nat.lt_irrefl _ (T7.out.ltA _ h),fun h=>Nat.lt_irrefl _ (T7.out.ltG _ h).1,fun h=>by have:=T7.out.lt; omega,fun h=>Nat.lt_irrefl _ (T7.out.ownlt h),T7.out.bel.size⟩)
     clear hb8 hv8
     have HPOP:=Hi (qpop_any Q _ _ w8 T8.out.que)
     refine HPOP.out.mono ?_
     intro e9 w9 hp9
     obtain ⟨ok9,y9,m9,rfl,hq9,ht9,hc9⟩:=popped_or hp9
     have HX9:=Hi (HX8.out.block (ht9.block _ (AgAt.lt HX8.out) HL7.out.2.1))
     have T9:=Hi (T8.out.queued ht9 hq9)
     have HRL:=Hi (HRO.out.step hr HVL.out ok9 y9 m9 hc9)
     have HBX9:=Hi (show BxOk w w.heap.size A (ext (ext G wd w7) w8 w9) (.slice p4 (lo ++ [e]).length c4) w7.heap.size w9 from ⟨HL7.out.1,fun h=>h.elim HL7.out.2.1 fun h=>by have:=AgAt.lt HX8.out; omega,HL7.out.2.2.1,HL7.out.2.2.2.1,HL7.out.2.2.2.2⟩)
     clear hp9 hq9 ht9 hc9 HPOP T8 T7 HL7 HX7 HX8
     go_wp2_with (refine wpList_store_ag (A:=itA y9) itT rfl _ _ rfl _ rfl _ HX9.out rfl rfl rfl (itA_one _) ?_; intro w10 hv10 hko hsz hbn)
     have T10:=Hi (T9.out.boxed (stored_turns hko hsz hbn) HBX9.out)
     have HX10:=Hi hv10
     have HLE:=Hi (show (lo ++ [e]).length=lo.length+1 from by simp)
     have HGG:=Hi (show (flatE (updE (fun r=>(v r).l) r ls)).length<g1 from by
      have h1:=(flatE_step (v:=fun r=>(v r).l) hr HVL.out).length_eq
      simp only [List.length_cons] at h1
      have:=HG.out
      omega)
     rw [← updR_l v r ⟨tlq b o cr,cr - 1,ls⟩] at HRL HGG
     clear hv10 hko hsz hbn
     go_wp2
     go_roundg g1
     case rel=>exact ⟨_,_,_,_,_,_,_,ok9,y9,w7.heap.size,rfl,rfl,by rw [HLE.out],T10.out,HX10.out,HBX9.out,HRL.out,HGG.out⟩
     case measure=>omega
end Go.Proofs.YtfgnmnkihbgjnaaGreat
