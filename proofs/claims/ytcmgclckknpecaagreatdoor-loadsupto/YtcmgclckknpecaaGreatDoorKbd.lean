import Derived.Test.YtcmgclckknpecaaGreatDoorKbc
namespace Go.Proofs.YtcmgclckknpecaaGreatDoor
open Go.RowKit Go.Shelf
set_option maxRecDepth 100000 in
set_option maxHeartbeats 1600000 in
theorem fslow_any (b:Nat) (w:World) (M:World→Prop) (h0:w.cell? ⟨b,9,none⟩=some (.int .u32 0)) (h1:w.cell? ⟨b,10,none⟩=some (.int .i32 0)) (f1:w.frozen? ⟨b,10,none⟩=false)
  (HM:Hid (Calls Tryz.prog 66 #[.pointer (some ⟨b,2,none⟩)] (w.setCell ⟨b,10,none⟩ (.int .i32 1)) fun e w2=>e=.returned (.tuple #[])∧M w2∧w2.cell? ⟨b,9,none⟩=some (.int .u32 0)∧w2.cell? ⟨b,10,none⟩=some (.int .i32 1)∧(∀ o,w2.frozen? ⟨b,o,none⟩=false))) :
  Calls Tryz.prog 126 #[.pointer (some ⟨b,9,none⟩),.func (.func 66) #[.pointer (some ⟨b,2,none⟩)] #[]] w fun e w'=>e=.returned (.tuple #[])∧∃ w2,M w2∧w2.cell? ⟨b,10,none⟩=some (.int .i32 1)∧w'=(w2.drew.setCell ⟨b,9,none⟩ (.int .u32 1)).setCell ⟨b,10,none⟩ (.int .i32 0):=by
 have hl:=run_call_load (P:=Tryz.prog) Tryz.func191 (by kernel_rfl) (by kernel_rfl) (by kernel_rfl) .u32 (by kernel_rfl) (w:=w.setCell ⟨b,10,none⟩ (.int .i32 1)) (a:=⟨b,9,none⟩) (x:=0) ((World.cell?_setCell_other _ ⟨b,10,none⟩ ⟨b,9,none⟩ _ (by simp)).trans h0)
 have hnot:∀ (x:Bool) (w:World),(Op.unary .not (.bool x)).run Tryz.prog w=.ok (.bool (!x)) w:=fun _ _=>rfl
 go_enter_defers Tryz.func126,Tryz.ntmps126
 go_wp2_with (first
  | (go_at_call 192;refine (lock_free ⟨b,10,none⟩ _ (by go_simp) (by go_simp)).mono ?_;rintro e w' ⟨rfl,rfl⟩)
  | (go_at_call 125;go_in))
 refine HM.out.mono ?_
 rintro e w2 ⟨rfl,hM2,c7,c8,fz⟩
 go_wp2
 refine leaves_cons (f:=194) (args:=#[.pointer (some ⟨b,9,none⟩),.bool true]) (by simp) (by simp [go_sem]) ?_
 refine (store_deferred ⟨b,9,none⟩ (.int .u32 0) .returning _ c7 (fz 9)).mono ?_
 rintro e u' w'' ⟨rfl,rfl,rfl⟩
 refine leaves_cons (f:=193) (args:=#[.pointer (some ⟨b,10,none⟩)]) (by simp [settle]) (by simp [go_sem]) ?_
 refine (unlock_deferred ⟨b,10,none⟩ _ _ ((World.cell?_setCell_other _ ⟨b,9,none⟩ ⟨b,10,none⟩ _ (by simp)).trans (by rw [World.cell?_drew];exact c8)) (by simp [fz 10])).mono ?_
 rintro e u' w'' ⟨rfl,rfl,rfl⟩
 exact ⟨.tuple #[],by simp [results,Tryz.results126],rfl,w2,hM2,c8,rfl⟩
set_option maxRecDepth 100000 in
set_option maxHeartbeats 1600000 in
theorem fdo_first (b:Nat) (w:World) (M:World→Prop) (h0:w.cell? ⟨b,9,none⟩=some (.int .u32 0)) (h1:w.cell? ⟨b,10,none⟩=some (.int .i32 0)) (f1:w.frozen? ⟨b,10,none⟩=false)
  (HM:Hid (Calls Tryz.prog 66 #[.pointer (some ⟨b,2,none⟩)] (w.setCell ⟨b,10,none⟩ (.int .i32 1)) fun e w2=>e=.returned (.tuple #[])∧M w2∧w2.cell? ⟨b,9,none⟩=some (.int .u32 0)∧w2.cell? ⟨b,10,none⟩=some (.int .i32 1)∧(∀ o,w2.frozen? ⟨b,o,none⟩=false))) :
  Calls Tryz.prog 65 #[.pointer (some ⟨b,9,none⟩),.func (.func 66) #[.pointer (some ⟨b,2,none⟩)] #[]] w fun e w'=>e=.returned (.tuple #[])∧∃ w2,M w2∧w2.cell? ⟨b,10,none⟩=some (.int .i32 1)∧w'=(w2.drew.setCell ⟨b,9,none⟩ (.int .u32 1)).setCell ⟨b,10,none⟩ (.int .i32 0):=by
 have hl:=run_call_load (P:=Tryz.prog) Tryz.func191 (by kernel_rfl) (by kernel_rfl) (by kernel_rfl) .u32 (by kernel_rfl) h0
 have hnot:∀ (x:Bool) (w:World),(Op.unary .not (.bool x)).run Tryz.prog w=.ok (.bool (!x)) w:=fun _ _=>rfl
 go_enter Tryz.func65,Tryz.ntmps65
 go_wp2_with (first
  | (go_at_call 126;refine (fslow_any b _ M h0 h1 f1 HM).mono ?_;rintro e w' ⟨rfl,hw'⟩)
  | (go_at_call 125;go_in))
 go_end0
 exact ⟨rfl,hw'⟩
set_option maxRecDepth 100000 in
theorem fdo_again (b:Nat) (w:World) (h0:w.cell? ⟨b,9,none⟩=some (.int .u32 1)) :
  Calls Tryz.prog 65 #[.pointer (some ⟨b,9,none⟩),.func (.func 66) #[.pointer (some ⟨b,2,none⟩)] #[]] w fun e w'=>e=.returned (.tuple #[])∧w'=w:=by
 have hl:=run_call_load (P:=Tryz.prog) Tryz.func191 (by kernel_rfl) (by kernel_rfl) (by kernel_rfl) .u32 (by kernel_rfl) h0
 have hnot:∀ (x:Bool) (w:World),(Op.unary .not (.bool x)).run Tryz.prog w=.ok (.bool (!x)) w:=fun _ _=>rfl
 go_enter Tryz.func65,Tryz.ntmps65
 go_wp2_with (go_at_call 125;go_in)
 go_end0
 exact ⟨rfl,rfl⟩
theorem fagr_set [Inhabited Exb] {A:World} {b:Nat} {cs:Array Value} (h:Blk b 175 cs A) (hb:b≠0) (o:Nat) (v:Value):Agr A (A.setCell ⟨b,o,none⟩ v):=Agr.of_grown (grown_set A b o v) (fun r ob e ho hk=>by
 cases e
 rw [show A.heap[b]?=_ from h] at ho
 cases ho
 rcases hk with h | ⟨c,t,fz,h1,h2⟩
 ·exact hb h
 ·cases h1
  exact absurd (h2.imp_left And.left) (by decide))
structure FMadeO [Inhabited Exb] (w:World) (LE LL:List Sq) (jC b:Nat) (cells:Value→Value→Value→Array Value) (w':World):Prop where
 ex:∃ vE fC vL fE fL,Blk b 175 (cells vE fC vL) w'∧w'.ownsRow w.heap.size 189 1 vE LE.length fE∧w'.ownsRow w.heap.size 194 1 vL LL.length fL∧All2 (RE w') LE fE∧All2 (RL w') LL fL∧COk fC jC w'∧Agr w w'∧w.grownBy w' (some b)
set_option maxRecDepth 100000 in
set_option maxHeartbeats 8000000 in
theorem fmakeStages_ok [Inhabited Exb] (nm ch:ByteArray) (ib:Nat) (base b ge gl:Nat) (LE LL:List Sq) (cu:Sp) (jC:Nat) (pe:Option Addr) (ce:Nat) (p1 p2:Option Addr) (n1 c1 n2 c2:Nat) (x z:Int) (al:Option Addr) (cl:Nat) (ss sm:Value) (w:World) (hkE:LE.length≤8) (hkL:LL.length≤8) (hb0:b≠0)
  (hA:Blk b 175 #[.string nm,.string ch,.slice pe LE.length ce,.string cu.nm,.slice p1 n1 c1,.slice p2 n2 c2,.int .i64 x,.int .i64 z,.slice al LL.length cl,.int .u32 0,ss,sm,.slice none 0 0,.nilFunc,.slice none 0 0,.map (some ib)] w)
  (hpe:0<LE.length→pe=some ⟨ge,0,none⟩∧ge≠b∧ge<w.heap.size) (hal:0<LL.length→al=some ⟨gl,0,none⟩∧gl≠b∧gl<w.heap.size) (HSE:Hid (Srow base ge LE w)) (HSL:Hid (Srow base gl LL w)) (hSC:StE base cu (.slice p1 n1 c1) (.slice p2 n2 c2) x z w) (HEN:Hid (Ends w))
  (HIE:Hid (∀ q∈LE,∃ i,∃ hi:i<Pl.starts.length,i<3∧q.1.nm=Pl.starts[i]∧SpW q.1)) (HIL:Hid (∀ q∈LL,∃ i,∃ hi:i<Pl.lates.length,q.1.nm=Pl.lates[i]∧SpW q.1)) (hjC:jC<Pl.starts.length) (hjC3:3≤jC) (HCN:Hid (cu.nm=Pl.starts[jC])) :
  Calls Tryz.prog 66 #[.pointer (some ⟨b,2,none⟩)] w fun e w'=>e=.returned (.tuple #[])∧FMadeO w LE LL jC b (fun vE fC vL=>#[.string nm,.string ch,.slice pe LE.length ce,.string cu.nm,.slice p1 n1 c1,.slice p2 n2 c2,.int .i64 x,.int .i64 z,.slice al LL.length cl,.int .u32 0,ss,sm,vE,fC,vL,.map (some ib)]) w':=by
 have hb:=hA.lt
 have hw0:0<w.heap.size:=by omega
 obtain ⟨i0,hi,hz0,hz1,hz2⟩:=info_parts info171
 obtain ⟨i1,hi1,hy0,hy1,hy2⟩:=info_parts info189
 have a0:w.cell? ⟨b,2,none⟩=some (.slice pe LE.length ce):=blk_cell hA 2
 go_enter Tryz.func66,Tryz.ntmps66
 go_wp2_with fail
 go_loopw [12] (fun i wr=>∃ (j:Nat) (v:Value) (fs:List Value),i=.int .i64 (j:Int)∧j≤LE.length∧Blk b 175 #[.string nm,.string ch,.slice pe LE.length ce,.string cu.nm,.slice p1 n1 c1,.slice p2 n2 c2,.int .i64 x,.int .i64 z,.slice al LL.length cl,.int .u32 0,ss,sm,v,.nilFunc,.slice none 0 0,.map (some ib)] wr∧wr.ownsRow w.heap.size 189 1 v j fs∧Hid (All2 (RE wr) (LE.take j) fs)∧Agr w wr∧w.grownBy wr (some b)) (fun i _=>LE.length - (intOf i).toNat)
 case atStart=>exact ⟨0,_,[],rfl,by omega,hA,World.ownsRow_nil _ _ _ _,trivial,Agr.refl w,World.grownBy.refl _ _⟩
 case round =>
  obtain ⟨j,v,fs,rfl,hj,hAr,hrow,HAll,hagr,hgr⟩:=hrel
  by_cases hjk:j<LE.length
  ·have hjI:(j:Int)<(LE.length:Int):=by omega
   obtain ⟨rfl,hglb,hglw⟩:=hpe (by omega)
   obtain ⟨q1,m1,d1,q2,m2,d2,u,v',hq2,g0,g1,g2,g3,g4⟩:=HSE.out.c j hjk
   have hOj:=HSE.out.o (LE[j]) (List.getElem_mem hjk)
   have hij:=HIE.out (LE[j]) (List.getElem_mem hjk)
   have HIJ:Hid (∃ i,∃ hi:i<Pl.starts.length,i<3∧(LE[j]).1.nm=Pl.starts[i]∧SpW (LE[j]).1):=hij
   clear hij
   have htk:LE.take (j+1)=LE.take j++[LE[j]]:=List.take_succ_eq_append_getElem hjk
   obtain ⟨q,hq⟩:∃ q,LE[j]=q:=⟨_,rfl⟩
   rw [hq] at hq2 g0 hOj HIJ htk
   rw [hq2] at hOj
   have HTK:Hid (LE.take (j+1)=LE.take j++[q]):=htk
   have HQ2:Hid (q.2=(.slice q1 m1 d1,.slice q2 m2 d2,u,v')):=hq2
   have hkeep:∀ o,wr.cell? ⟨ge,o,none⟩=w.cell? ⟨ge,o,none⟩:=fun o=>hgr.cell_far ⟨ge,o,none⟩ hglw (by simpa using hglb)
   rw [← hkeep] at g0 g1 g2 g3 g4
   clear hkeep hq hq2 htk
   have hvf:∃ av cv,v=.slice av j cv:=by
    rcases hrow.2 with ⟨hv',h0⟩ | ⟨g',cap',cur,hv',_⟩
    ·exact ⟨none,0,by rw [hv',h0]⟩
    ·exact ⟨_,_,hv'⟩
   obtain ⟨av,cv,rfl⟩:=hvf
   go_wp2_with fail
   have tb:Blk wr.heap.size 96 #[.string q.1.nm,.slice q1 m1 d1,.slice q2 m2 d2,.int .i64 u,.int .i64 v'] (wr.alloc (.cells #[.string q.1.nm,.slice q1 m1 d1,.slice q2 m2 d2,.int .i64 u,.int .i64 v'] 96)):=heap_alloc_new wr _
   have hAa:=hAr.alloc (.cells #[.string q.1.nm,.slice q1 m1 d1,.slice q2 m2 d2,.int .i64 u,.int .i64 v'] 96)
   have hba:=hAr.lt
   have hS0:((wr.alloc (.cells #[.string q.1.nm,.slice q1 m1 d1,.slice q2 m2 d2,.int .i64 u,.int .i64 v'] 96)).drew).cell? ⟨b,12,none⟩=some (.slice av j cv)∧((wr.alloc (.cells #[.string q.1.nm,.slice q1 m1 d1,.slice q2 m2 d2,.int .i64 u,.int .i64 v'] 96)).drew).cell? ⟨wr.heap.size,0,none⟩=some (.string q.1.nm)∧((wr.alloc (.cells #[.string q.1.nm,.slice q1 m1 d1,.slice q2 m2 d2,.int .i64 u,.int .i64 v'] 96)).drew).cell? ⟨wr.heap.size,1,none⟩=some (.slice q1 m1 d1)∧((wr.alloc (.cells #[.string q.1.nm,.slice q1 m1 d1,.slice q2 m2 d2,.int .i64 u,.int .i64 v'] 96)).drew).cell? ⟨wr.heap.size,2,none⟩=some (.slice q2 m2 d2)∧((wr.alloc (.cells #[.string q.1.nm,.slice q1 m1 d1,.slice q2 m2 d2,.int .i64 u,.int .i64 v'] 96)).drew).cell? ⟨wr.heap.size,3,none⟩=some (.int .i64 u)∧((wr.alloc (.cells #[.string q.1.nm,.slice q1 m1 d1,.slice q2 m2 d2,.int .i64 u,.int .i64 v'] 96)).drew).cell? ⟨wr.heap.size,4,none⟩=some (.int .i64 v'):=⟨blk_cell hAa 12,blk_cell tb 0,blk_cell tb 1,blk_cell tb 2,blk_cell tb 3,blk_cell tb 4⟩
   refine wp_region_G (S:=fun w'=>(w').cell? ⟨b,12,none⟩=some (.slice av j cv)∧(w').cell? ⟨wr.heap.size,0,none⟩=some (.string q.1.nm)∧(w').cell? ⟨wr.heap.size,1,none⟩=some (.slice q1 m1 d1)∧(w').cell? ⟨wr.heap.size,2,none⟩=some (.slice q2 m2 d2)∧(w').cell? ⟨wr.heap.size,3,none⟩=some (.int .i64 u)∧(w').cell? ⟨wr.heap.size,4,none⟩=some (.int .i64 v')) (c:=11) (by kernel_rfl) ?_
   refine wpAnyG_take 16 (i:=0) (v:=.pointer (some ⟨b,2,none⟩)) rfl rfl (by kernel_rfl) (by kernel_rfl) (by kernel_rfl) (by kernel_rfl) (by decide) (by kernel_rfl) (fun _ _ _ h=>h) (Or.inl ⟨by rfl,?_⟩) hS0 ?_
   ·intro w' hw'
    obtain ⟨s0,s1,s2,s3,s4,s5⟩:=hw'
    go_simp
   simp only [List.setIfInBounds_toArray,List.set_cons_zero,List.set_cons_succ]
   refine wpAnyG_take 17 (i:=1) (v:=.pointer (some ⟨b,2,none⟩)) rfl rfl (by kernel_rfl) (by kernel_rfl) (by kernel_rfl) (by kernel_rfl) (by decide) (by kernel_rfl) (fun _ _ _ h=>h) (Or.inl ⟨by rfl,?_⟩) hS0 ?_
   ·intro w' hw'
    obtain ⟨s0,s1,s2,s3,s4,s5⟩:=hw'
    go_simp
   simp only [List.setIfInBounds_toArray,List.set_cons_zero,List.set_cons_succ]
   refine wpAnyG_take 18 (i:=2) (v:=.pointer (some ⟨b,2,none⟩)) rfl rfl (by kernel_rfl) (by kernel_rfl) (by kernel_rfl) (by kernel_rfl) (by decide) (by kernel_rfl) (fun _ _ _ h=>h) (Or.inl ⟨by rfl,?_⟩) hS0 ?_
   ·intro w' hw'
    obtain ⟨s0,s1,s2,s3,s4,s5⟩:=hw'
    go_simp
   simp only [List.setIfInBounds_toArray,List.set_cons_zero,List.set_cons_succ]
   refine wpAnyG_take 19 (i:=3) (v:=.pointer (some ⟨b,12,none⟩)) rfl rfl (by kernel_rfl) (by kernel_rfl) (by kernel_rfl) (by kernel_rfl) (by decide) (by kernel_rfl) (fun _ _ _ h=>h) (Or.inl ⟨by rfl,?_⟩) hS0 ?_
   ·intro w' hw'
    obtain ⟨s0,s1,s2,s3,s4,s5⟩:=hw'
    go_simp
   simp only [List.setIfInBounds_toArray,List.set_cons_zero,List.set_cons_succ]
   refine wpAnyG_take 20 (i:=4) (v:=.slice av j cv) rfl rfl (by kernel_rfl) (by kernel_rfl) (by kernel_rfl) (by kernel_rfl) (by decide) (by kernel_rfl) (fun _ _ _ h=>h) (Or.inl ⟨by rfl,?_⟩) hS0 ?_
   ·intro w' hw'
    obtain ⟨s0,s1,s2,s3,s4,s5⟩:=hw'
    go_simp
   simp only [List.setIfInBounds_toArray,List.set_cons_zero,List.set_cons_succ]
   refine wpAnyG_take 21 (i:=5) (v:=.agg #[.string q.1.nm,.slice q1 m1 d1,.slice q2 m2 d2,.int .i64 u,.int .i64 v']) rfl rfl (by kernel_rfl) (by kernel_rfl) (by kernel_rfl) (by kernel_rfl) (by decide) (by kernel_rfl) (fun _ _ _ h=>h) (Or.inl ⟨by rfl,?_⟩) hS0 ?_
   ·intro w' hw'
    obtain ⟨s0,s1,s2,s3,s4,s5⟩:=hw'
    go_simp
   simp only [List.setIfInBounds_toArray,List.set_cons_zero,List.set_cons_succ]
   refine wpAnyG_one (i:=6) rfl (by kernel_rfl) (by rfl) ?_
   go_simp
   obtain ⟨ix,hix,hi3,hnmx,hwx⟩:=HIJ.out
   have HNX:Hid (q.1.nm=Pl.starts[ix]):=hnmx
   clear hnmx
   refine (makeEarly_ok ix hix hi3 q.1 HNX.out hwx base _ _ u v' _ (hOj.agr (hagr.trans (Agr.below ((Below.refl wr.heap.size wr).alloc (Nat.le_refl _) _).drew)))).mono ?_
   rintro e W2 ⟨f,rfl,hF2,hB2⟩
   obtain ⟨Fn,lbn,rfl⟩:∃ Fn lbn,f=.func (.func Fn) #[] lbn:=by
    obtain ⟨Fn,lbn,h1,_⟩:=hF2.ex
    exact ⟨Fn,lbn,h1⟩
   have hs2:wr.heap.size+1≤W2.heap.size:=by have:=hB2.size;simpa using this
   have hBd:Below (wr.alloc (.cells #[.string q.1.nm,.slice q1 m1 d1,.slice q2 m2 d2,.int .i64 u,.int .i64 v'] 96)).heap.size (wr.alloc (.cells #[.string q.1.nm,.slice q1 m1 d1,.slice q2 m2 d2,.int .i64 u,.int .i64 v'] 96)) W2:=(Below.refl _ _).drew.trans hB2
   have hA2':=hAa.keep (row:=none) (grown_of_below none hBd) (by simp)
   have tb2:=tb.keep (row:=none) (grown_of_below none hBd) (by simp)
   have hBr:Below wr.heap.size wr W2:=((Below.refl wr.heap.size wr).alloc (Nat.le_refl _) _).trans (hBd.mono (by simp))
   have hrow2:=ownsRow_below hrow hBr
   have hS2:(W2).cell? ⟨b,12,none⟩=some (.slice av j cv)∧(W2).cell? ⟨wr.heap.size,0,none⟩=some (.string q.1.nm)∧(W2).cell? ⟨wr.heap.size,1,none⟩=some (.slice q1 m1 d1)∧(W2).cell? ⟨wr.heap.size,2,none⟩=some (.slice q2 m2 d2)∧(W2).cell? ⟨wr.heap.size,3,none⟩=some (.int .i64 u)∧(W2).cell? ⟨wr.heap.size,4,none⟩=some (.int .i64 v'):=⟨blk_cell hA2' 12,blk_cell tb2 0,blk_cell tb2 1,blk_cell tb2 2,blk_cell tb2 3,blk_cell tb2 4⟩
   refine ⟨hS2,?_⟩
   refine wpAnyG_one (i:=7) rfl (by kernel_rfl) (by rfl) ?_
   go_simp
   have hA3:=hA2'.alloc (.cells #[.func (.func Fn) #[] lbn] 189)
   have tb3:=tb2.alloc (.cells #[.func (.func Fn) #[] lbn] 189)
   have hS3:(W2.alloc (.cells #[.func (.func Fn) #[] lbn] 189)).cell? ⟨b,12,none⟩=some (.slice av j cv)∧(W2.alloc (.cells #[.func (.func Fn) #[] lbn] 189)).cell? ⟨wr.heap.size,0,none⟩=some (.string q.1.nm)∧(W2.alloc (.cells #[.func (.func Fn) #[] lbn] 189)).cell? ⟨wr.heap.size,1,none⟩=some (.slice q1 m1 d1)∧(W2.alloc (.cells #[.func (.func Fn) #[] lbn] 189)).cell? ⟨wr.heap.size,2,none⟩=some (.slice q2 m2 d2)∧(W2.alloc (.cells #[.func (.func Fn) #[] lbn] 189)).cell? ⟨wr.heap.size,3,none⟩=some (.int .i64 u)∧(W2.alloc (.cells #[.func (.func Fn) #[] lbn] 189)).cell? ⟨wr.heap.size,4,none⟩=some (.int .i64 v'):=⟨blk_cell hA3 12,blk_cell tb3 0,blk_cell tb3 1,blk_cell tb3 2,blk_cell tb3 3,blk_cell tb3 4⟩
   refine ⟨hS3,?_⟩
   have HNB:Hid ((W2.alloc (.cells #[.func (.func Fn) #[] lbn] 189)).heap[W2.heap.size]?=some (.cells #[.func (.func Fn) #[] lbn] 189 (0,0))):=heap_alloc_new W2 _
   refine wpAnyG_one (i:=8) rfl (by kernel_rfl) (by rfl) ?_
   refine wp_append_lies _ _ _ 113 rfl w.heap.size 189 i1 (.agg #[.nilFunc]) 1 8 Tryz.underlying113 hi1 hy0 hy1 hy2 rfl (by decide) _ j fs rfl (hrow2.alloc _) ⟨W2.heap.size,0,none⟩ 1 1 [.func (.func Fn) #[] lbn] rfl rfl (World.news_of_block HNB.out) (by simp [Value.oneCell']) (by decide) (by unfold maxLen;omega) (by omega) (by have:=hgr.size;simp;omega) (W2.heap.size+1) (by simp) ?_
   intro g' cap' W4 hown hgrow hat hlt4
   have hA4:=hA3.keep hgrow (row_ne_blk hrow2 hA2' (by decide))
   have hne4:(Value.slice av j cv).ownBlock≠some wr.heap.size:=fun e=>by have:=(ownBlock_lt hrow e).1;omega
   have tb4:=tb3.keep hgrow hne4
   have hS4:(W4).cell? ⟨b,12,none⟩=some (.slice av j cv)∧(W4).cell? ⟨wr.heap.size,0,none⟩=some (.string q.1.nm)∧(W4).cell? ⟨wr.heap.size,1,none⟩=some (.slice q1 m1 d1)∧(W4).cell? ⟨wr.heap.size,2,none⟩=some (.slice q2 m2 d2)∧(W4).cell? ⟨wr.heap.size,3,none⟩=some (.int .i64 u)∧(W4).cell? ⟨wr.heap.size,4,none⟩=some (.int .i64 v'):=⟨blk_cell hA4 12,blk_cell tb4 0,blk_cell tb4 1,blk_cell tb4 2,blk_cell tb4 3,blk_cell tb4 4⟩
   refine ⟨fun _=>hS4,?_⟩
   simp only [Act.put,List.setIfInBounds_toArray]
   refine wpAnyG_one (i:=9) rfl (by kernel_rfl) (by rfl) ?_
   go_simp
   refine wpAnyG_one (i:=10) rfl (by kernel_rfl) (by rfl) ?_
   go_simp
   have x12:W4.cell? ⟨b,12,none⟩=some (.slice av j cv):=hS4.1
   have y12:=blk_frozen hA4 12
   refine wpAnyG_one (i:=11) rfl (by kernel_rfl) (by rfl) ?_
   go_simp
   refine wpAnyG_done (by kernel_rfl) ?_ _
   go_wp2_with fail
   have hA5:=hA4.set 12 (.slice (some ⟨g',0,none⟩) (j+1) cap')
   have hr5:=ownsRow_set_other hown (row_ne_blk hown hA4 (by decide)) 12 (.slice (some ⟨g',0,none⟩) (j+1) cap')
   have hg5:w.grownBy (W4.setCell ⟨b,12,none⟩ (.slice (some ⟨g',0,none⟩) (j+1) cap')) (some b):=grown_trans (grown_own (grown_alloc (grown_trans hgr (grown_of_below _ hBr)) (.cells #[.func (.func Fn) #[] lbn] 189)) hgrow (fun x e=>(ownBlock_lt hrow e).2)) (grown_set W4 b 12 (.slice (some ⟨g',0,none⟩) (j+1) cap'))
   have ag24:Agr W2 (W4.setCell ⟨b,12,none⟩ (.slice (some ⟨g',0,none⟩) (j+1) cap')):=((Agr.below ((Below.refl _ W2).alloc (Nat.le_refl _) _)).trans (agr_row hgrow (hrow2.alloc _) hw0 (by decide))).trans (fagr_set hA4 hb0 12 _)
   have agr4:Agr wr (W4.setCell ⟨b,12,none⟩ (.slice (some ⟨g',0,none⟩) (j+1) cap')):=(Agr.below hBr).trans ag24
   go_roundw
   case rel=>exact ⟨j+1,(.slice (some ⟨g',0,none⟩) (j+1) cap'),_,by go_num,by omega,hA5,hr5,(by rw [HTK.out];exact All2.snoc ⟨ix,hix,hi3,HNX.out,hF2.agr ag24⟩ (All2.mono (RE.agr agr4) HAll.out)),hagr.trans agr4,hg5⟩
   case measure=>simp [intOf];omega
  ·have hjI:¬ (j:Int)<(LE.length:Int):=by omega
   obtain rfl:j=LE.length:=by omega
   have hall:=HAll.out
   rw [List.take_length] at hall
   have HALL:Hid (All2 (RE wr) LE fs):=hall
   clear hall HAll
   obtain ⟨vE,hvE⟩:∃ vE,v=vE:=⟨_,rfl⟩
   rw [hvE] at hAr hrow
   clear hvE
   obtain ⟨fE,hfE⟩:∃ fE,fs=fE:=⟨_,rfl⟩
   rw [hfE] at hrow HALL
   clear hfE
   obtain ⟨WW,hWW⟩:∃ WW,wr=WW:=⟨_,rfl⟩
   rw [hWW] at hAr hrow HALL hagr hgr ⊢
   clear hWW a0
   have a1:WW.cell? ⟨b,3,none⟩=some (.string cu.nm):=blk_cell hAr 3
   have a2:WW.cell? ⟨b,4,none⟩=some (.slice p1 n1 c1):=blk_cell hAr 4
   have a3:WW.cell? ⟨b,5,none⟩=some (.slice p2 n2 c2):=blk_cell hAr 5
   have a4:WW.cell? ⟨b,6,none⟩=some (.int .i64 x):=blk_cell hAr 6
   have a5:WW.cell? ⟨b,7,none⟩=some (.int .i64 z):=blk_cell hAr 7
   go_wp2_with fail
   refine (makeCutter_ok jC hjC hjC3 cu HCN.out base _ _ x z WW (hSC.agr hagr)).mono ?_
   rintro e w1 ⟨fC,rfl,hF1,hB1⟩
   obtain ⟨bs,hfC,_⟩:=hF1.ex
   have hA1:=hAr.keep (row:=none) (grown_of_below none hB1) (by simp)
   have e11:w1.cell? ⟨b,13,none⟩=some .nilFunc:=blk_cell hA1 13
   have f11:=blk_frozen hA1 13
   have hA2:=hA1.set 13 fC
   have hg2:w.grownBy (w1.setCell ⟨b,13,none⟩ fC) (some b):=grown_trans (grown_trans hgr (grown_of_below _ hB1)) (grown_set w1 b 13 fC)
   have e6:(w1.setCell ⟨b,13,none⟩ fC).cell? ⟨b,8,none⟩=some (.slice al LL.length cl):=blk_cell hA2 8
   have agc:Agr WW (w1.setCell ⟨b,13,none⟩ fC):=(Agr.below hB1).trans (fagr_set hA1 hb0 13 fC)
   have HAG2:Hid (Agr w (w1.setCell ⟨b,13,none⟩ fC)):=hagr.trans agc
   have HE2:Hid ((w1.setCell ⟨b,13,none⟩ fC).ownsRow w.heap.size 189 1 vE LE.length fE∧All2 (RE (w1.setCell ⟨b,13,none⟩ fC)) LE fE∧COk fC jC (w1.setCell ⟨b,13,none⟩ fC)):=⟨ownsRow_set_other (ownsRow_below hrow hB1) (row_ne_blk (ownsRow_below hrow hB1) hA1 (by decide)) 13 fC,All2.mono (RE.agr agc) HALL.out,hF1.agr (fagr_set hA1 hb0 13 fC)⟩
   simp only [Array.setIfInBounds,List.size_toArray] at hA2
   subst hfC
   go_wp2_with fail
   go_loopw [43] (fun i wr=>∃ (j:Nat) (v:Value) (fs:List Value),i=.int .i64 (j:Int)∧j≤LL.length∧Blk b 175 #[.string nm,.string ch,.slice pe LE.length ce,.string cu.nm,.slice p1 n1 c1,.slice p2 n2 c2,.int .i64 x,.int .i64 z,.slice al LL.length cl,.int .u32 0,ss,sm,vE,(.func (.func 296) #[] #[.pointer (some ⟨bs,0,none⟩)]),v,.map (some ib)] wr∧wr.ownsRow w.heap.size 194 1 v j fs∧Hid (All2 (RL wr) (LL.take j) fs∧wr.ownsRow w.heap.size 189 1 vE LE.length fE∧All2 (RE wr) LE fE∧COk (.func (.func 296) #[] #[.pointer (some ⟨bs,0,none⟩)]) jC wr)∧Agr w wr∧w.grownBy wr (some b)) (fun i _=>LL.length - (intOf i).toNat)
   case atStart=>exact ⟨0,_,[],rfl,by omega,hA2,World.ownsRow_nil _ _ _ _,⟨trivial,HE2.out.1,HE2.out.2.1,HE2.out.2.2⟩,HAG2.out,hg2⟩
   case round =>
    obtain ⟨j,v,fs,rfl,hj,hAr,hrow,HAll,hagr,hgr⟩:=hrel
    by_cases hjk:j<LL.length
    ·have hjI:(j:Int)<(LL.length:Int):=by omega
     obtain ⟨rfl,hglb,hglw⟩:=hal (by omega)
     obtain ⟨q1,m1,d1,q2,m2,d2,u,v',hq2,g0,g1,g2,g3,g4⟩:=HSL.out.c j hjk
     have hOj:=HSL.out.o (LL[j]) (List.getElem_mem hjk)
     have hij:=HIL.out (LL[j]) (List.getElem_mem hjk)
     have HIJ:Hid (∃ i,∃ hi:i<Pl.lates.length,(LL[j]).1.nm=Pl.lates[i]∧SpW (LL[j]).1):=hij
     clear hij
     have htk:LL.take (j+1)=LL.take j++[LL[j]]:=List.take_succ_eq_append_getElem hjk
     obtain ⟨q,hq⟩:∃ q,LL[j]=q:=⟨_,rfl⟩
     rw [hq] at hq2 g0 hOj HIJ htk
     rw [hq2] at hOj
     have HTK:Hid (LL.take (j+1)=LL.take j++[q]):=htk
     have HQ2:Hid (q.2=(.slice q1 m1 d1,.slice q2 m2 d2,u,v')):=hq2
     have hkeep:∀ o,wr.cell? ⟨gl,o,none⟩=w.cell? ⟨gl,o,none⟩:=fun o=>hgr.cell_far ⟨gl,o,none⟩ hglw (by simpa using hglb)
     rw [← hkeep] at g0 g1 g2 g3 g4
     clear hkeep hq hq2 htk
     have hvf:∃ av cv,v=.slice av j cv:=by
      rcases hrow.2 with ⟨hv',h0⟩ | ⟨g',cap',cur,hv',_⟩
      ·exact ⟨none,0,by rw [hv',h0]⟩
      ·exact ⟨_,_,hv'⟩
     obtain ⟨av,cv,rfl⟩:=hvf
     go_wp2_with fail
     have tb:Blk wr.heap.size 96 #[.string q.1.nm,.slice q1 m1 d1,.slice q2 m2 d2,.int .i64 u,.int .i64 v'] (wr.alloc (.cells #[.string q.1.nm,.slice q1 m1 d1,.slice q2 m2 d2,.int .i64 u,.int .i64 v'] 96)):=heap_alloc_new wr _
     have hAa:=hAr.alloc (.cells #[.string q.1.nm,.slice q1 m1 d1,.slice q2 m2 d2,.int .i64 u,.int .i64 v'] 96)
     have hba:=hAr.lt
     have hS0:((wr.alloc (.cells #[.string q.1.nm,.slice q1 m1 d1,.slice q2 m2 d2,.int .i64 u,.int .i64 v'] 96)).drew).cell? ⟨b,14,none⟩=some (.slice av j cv)∧((wr.alloc (.cells #[.string q.1.nm,.slice q1 m1 d1,.slice q2 m2 d2,.int .i64 u,.int .i64 v'] 96)).drew).cell? ⟨wr.heap.size,0,none⟩=some (.string q.1.nm)∧((wr.alloc (.cells #[.string q.1.nm,.slice q1 m1 d1,.slice q2 m2 d2,.int .i64 u,.int .i64 v'] 96)).drew).cell? ⟨wr.heap.size,1,none⟩=some (.slice q1 m1 d1)∧((wr.alloc (.cells #[.string q.1.nm,.slice q1 m1 d1,.slice q2 m2 d2,.int .i64 u,.int .i64 v'] 96)).drew).cell? ⟨wr.heap.size,2,none⟩=some (.slice q2 m2 d2)∧((wr.alloc (.cells #[.string q.1.nm,.slice q1 m1 d1,.slice q2 m2 d2,.int .i64 u,.int .i64 v'] 96)).drew).cell? ⟨wr.heap.size,3,none⟩=some (.int .i64 u)∧((wr.alloc (.cells #[.string q.1.nm,.slice q1 m1 d1,.slice q2 m2 d2,.int .i64 u,.int .i64 v'] 96)).drew).cell? ⟨wr.heap.size,4,none⟩=some (.int .i64 v'):=⟨blk_cell hAa 14,blk_cell tb 0,blk_cell tb 1,blk_cell tb 2,blk_cell tb 3,blk_cell tb 4⟩
     refine wp_region_G (S:=fun w'=>(w').cell? ⟨b,14,none⟩=some (.slice av j cv)∧(w').cell? ⟨wr.heap.size,0,none⟩=some (.string q.1.nm)∧(w').cell? ⟨wr.heap.size,1,none⟩=some (.slice q1 m1 d1)∧(w').cell? ⟨wr.heap.size,2,none⟩=some (.slice q2 m2 d2)∧(w').cell? ⟨wr.heap.size,3,none⟩=some (.int .i64 u)∧(w').cell? ⟨wr.heap.size,4,none⟩=some (.int .i64 v')) (c:=11) (by kernel_rfl) ?_
     refine wpAnyG_take 47 (i:=0) (v:=.pointer (some ⟨b,2,none⟩)) rfl rfl (by kernel_rfl) (by kernel_rfl) (by kernel_rfl) (by kernel_rfl) (by decide) (by kernel_rfl) (fun _ _ _ h=>h) (Or.inl ⟨by rfl,?_⟩) hS0 ?_
     ·intro w' hw'
      obtain ⟨s0,s1,s2,s3,s4,s5⟩:=hw'
      go_simp
     simp only [List.setIfInBounds_toArray,List.set_cons_zero,List.set_cons_succ]
     refine wpAnyG_take 48 (i:=1) (v:=.pointer (some ⟨b,2,none⟩)) rfl rfl (by kernel_rfl) (by kernel_rfl) (by kernel_rfl) (by kernel_rfl) (by decide) (by kernel_rfl) (fun _ _ _ h=>h) (Or.inl ⟨by rfl,?_⟩) hS0 ?_
     ·intro w' hw'
      obtain ⟨s0,s1,s2,s3,s4,s5⟩:=hw'
      go_simp
     simp only [List.setIfInBounds_toArray,List.set_cons_zero,List.set_cons_succ]
     refine wpAnyG_take 49 (i:=2) (v:=.pointer (some ⟨b,2,none⟩)) rfl rfl (by kernel_rfl) (by kernel_rfl) (by kernel_rfl) (by kernel_rfl) (by decide) (by kernel_rfl) (fun _ _ _ h=>h) (Or.inl ⟨by rfl,?_⟩) hS0 ?_
     ·intro w' hw'
      obtain ⟨s0,s1,s2,s3,s4,s5⟩:=hw'
      go_simp
     simp only [List.setIfInBounds_toArray,List.set_cons_zero,List.set_cons_succ]
     refine wpAnyG_take 50 (i:=3) (v:=.pointer (some ⟨b,14,none⟩)) rfl rfl (by kernel_rfl) (by kernel_rfl) (by kernel_rfl) (by kernel_rfl) (by decide) (by kernel_rfl) (fun _ _ _ h=>h) (Or.inl ⟨by rfl,?_⟩) hS0 ?_
     ·intro w' hw'
      obtain ⟨s0,s1,s2,s3,s4,s5⟩:=hw'
      go_simp
     simp only [List.setIfInBounds_toArray,List.set_cons_zero,List.set_cons_succ]
     refine wpAnyG_take 51 (i:=4) (v:=.slice av j cv) rfl rfl (by kernel_rfl) (by kernel_rfl) (by kernel_rfl) (by kernel_rfl) (by decide) (by kernel_rfl) (fun _ _ _ h=>h) (Or.inl ⟨by rfl,?_⟩) hS0 ?_
     ·intro w' hw'
      obtain ⟨s0,s1,s2,s3,s4,s5⟩:=hw'
      go_simp
     simp only [List.setIfInBounds_toArray,List.set_cons_zero,List.set_cons_succ]
     refine wpAnyG_take 52 (i:=5) (v:=.agg #[.string q.1.nm,.slice q1 m1 d1,.slice q2 m2 d2,.int .i64 u,.int .i64 v']) rfl rfl (by kernel_rfl) (by kernel_rfl) (by kernel_rfl) (by kernel_rfl) (by decide) (by kernel_rfl) (fun _ _ _ h=>h) (Or.inl ⟨by rfl,?_⟩) hS0 ?_
     ·intro w' hw'
      obtain ⟨s0,s1,s2,s3,s4,s5⟩:=hw'
      go_simp
     simp only [List.setIfInBounds_toArray,List.set_cons_zero,List.set_cons_succ]
     refine wpAnyG_one (i:=6) rfl (by kernel_rfl) (by rfl) ?_
     go_simp
     obtain ⟨ix,hix,hnmx,hwx⟩:=HIJ.out
     have HNX:Hid (q.1.nm=Pl.lates[ix]):=hnmx
     clear hnmx
     refine (makeLate_ok ix hix q.1 HNX.out hwx base _ _ u v' _ (hOj.agr (hagr.trans (Agr.below ((Below.refl wr.heap.size wr).alloc (Nat.le_refl _) _).drew))) (HEN.out.agr (hagr.trans (Agr.below ((Below.refl wr.heap.size wr).alloc (Nat.le_refl _) _).drew)))).mono ?_
     rintro e W2 ⟨f,rfl,hF2,hB2⟩
     obtain ⟨Fn,lbn,rfl⟩:∃ Fn lbn,f=.func (.func Fn) #[] lbn:=by
      obtain ⟨Fn,lbn,h1,_⟩:=hF2.ex
      exact ⟨Fn,lbn,h1⟩
     have hs2:wr.heap.size+1≤W2.heap.size:=by have:=hB2.size;simpa using this
     have hBd:Below (wr.alloc (.cells #[.string q.1.nm,.slice q1 m1 d1,.slice q2 m2 d2,.int .i64 u,.int .i64 v'] 96)).heap.size (wr.alloc (.cells #[.string q.1.nm,.slice q1 m1 d1,.slice q2 m2 d2,.int .i64 u,.int .i64 v'] 96)) W2:=(Below.refl _ _).drew.trans hB2
     have hA2':=hAa.keep (row:=none) (grown_of_below none hBd) (by simp)
     have tb2:=tb.keep (row:=none) (grown_of_below none hBd) (by simp)
     have hBr:Below wr.heap.size wr W2:=((Below.refl wr.heap.size wr).alloc (Nat.le_refl _) _).trans (hBd.mono (by simp))
     have hrow2:=ownsRow_below hrow hBr
     have hS2:(W2).cell? ⟨b,14,none⟩=some (.slice av j cv)∧(W2).cell? ⟨wr.heap.size,0,none⟩=some (.string q.1.nm)∧(W2).cell? ⟨wr.heap.size,1,none⟩=some (.slice q1 m1 d1)∧(W2).cell? ⟨wr.heap.size,2,none⟩=some (.slice q2 m2 d2)∧(W2).cell? ⟨wr.heap.size,3,none⟩=some (.int .i64 u)∧(W2).cell? ⟨wr.heap.size,4,none⟩=some (.int .i64 v'):=⟨blk_cell hA2' 14,blk_cell tb2 0,blk_cell tb2 1,blk_cell tb2 2,blk_cell tb2 3,blk_cell tb2 4⟩
     refine ⟨hS2,?_⟩
     refine wpAnyG_one (i:=7) rfl (by kernel_rfl) (by rfl) ?_
     go_simp
     have hA3:=hA2'.alloc (.cells #[.func (.func Fn) #[] lbn] 194)
     have tb3:=tb2.alloc (.cells #[.func (.func Fn) #[] lbn] 194)
     have hS3:(W2.alloc (.cells #[.func (.func Fn) #[] lbn] 194)).cell? ⟨b,14,none⟩=some (.slice av j cv)∧(W2.alloc (.cells #[.func (.func Fn) #[] lbn] 194)).cell? ⟨wr.heap.size,0,none⟩=some (.string q.1.nm)∧(W2.alloc (.cells #[.func (.func Fn) #[] lbn] 194)).cell? ⟨wr.heap.size,1,none⟩=some (.slice q1 m1 d1)∧(W2.alloc (.cells #[.func (.func Fn) #[] lbn] 194)).cell? ⟨wr.heap.size,2,none⟩=some (.slice q2 m2 d2)∧(W2.alloc (.cells #[.func (.func Fn) #[] lbn] 194)).cell? ⟨wr.heap.size,3,none⟩=some (.int .i64 u)∧(W2.alloc (.cells #[.func (.func Fn) #[] lbn] 194)).cell? ⟨wr.heap.size,4,none⟩=some (.int .i64 v'):=⟨blk_cell hA3 14,blk_cell tb3 0,blk_cell tb3 1,blk_cell tb3 2,blk_cell tb3 3,blk_cell tb3 4⟩
     refine ⟨hS3,?_⟩
     have HNB:Hid ((W2.alloc (.cells #[.func (.func Fn) #[] lbn] 194)).heap[W2.heap.size]?=some (.cells #[.func (.func Fn) #[] lbn] 194 (0,0))):=heap_alloc_new W2 _
     refine wpAnyG_one (i:=8) rfl (by kernel_rfl) (by rfl) ?_
     refine wp_append_lies _ _ _ 117 rfl w.heap.size 194 i0 (.agg #[.nilFunc]) 1 8 Tryz.underlying117 hi hz0 hz1 hz2 rfl (by decide) _ j fs rfl (hrow2.alloc _) ⟨W2.heap.size,0,none⟩ 1 1 [.func (.func Fn) #[] lbn] rfl rfl (World.news_of_block HNB.out) (by simp [Value.oneCell']) (by decide) (by unfold maxLen;omega) (by omega) (by have:=hgr.size;simp;omega) (W2.heap.size+1) (by simp) ?_
     intro g' cap' W4 hown hgrow hat hlt4
     have hA4:=hA3.keep hgrow (row_ne_blk hrow2 hA2' (by decide))
     have hne4:(Value.slice av j cv).ownBlock≠some wr.heap.size:=fun e=>by have:=(ownBlock_lt hrow e).1;omega
     have tb4:=tb3.keep hgrow hne4
     have hS4:(W4).cell? ⟨b,14,none⟩=some (.slice av j cv)∧(W4).cell? ⟨wr.heap.size,0,none⟩=some (.string q.1.nm)∧(W4).cell? ⟨wr.heap.size,1,none⟩=some (.slice q1 m1 d1)∧(W4).cell? ⟨wr.heap.size,2,none⟩=some (.slice q2 m2 d2)∧(W4).cell? ⟨wr.heap.size,3,none⟩=some (.int .i64 u)∧(W4).cell? ⟨wr.heap.size,4,none⟩=some (.int .i64 v'):=⟨blk_cell hA4 14,blk_cell tb4 0,blk_cell tb4 1,blk_cell tb4 2,blk_cell tb4 3,blk_cell tb4 4⟩
     refine ⟨fun _=>hS4,?_⟩
     simp only [Act.put,List.setIfInBounds_toArray]
     refine wpAnyG_one (i:=9) rfl (by kernel_rfl) (by rfl) ?_
     go_simp
     refine wpAnyG_one (i:=10) rfl (by kernel_rfl) (by rfl) ?_
     go_simp
     have x12:W4.cell? ⟨b,14,none⟩=some (.slice av j cv):=hS4.1
     have y12:=blk_frozen hA4 14
     refine wpAnyG_one (i:=11) rfl (by kernel_rfl) (by rfl) ?_
     go_simp
     refine wpAnyG_done (by kernel_rfl) ?_ _
     go_wp2_with fail
     have hA5:=hA4.set 14 (.slice (some ⟨g',0,none⟩) (j+1) cap')
     have hr5:=ownsRow_set_other hown (row_ne_blk hown hA4 (by decide)) 14 (.slice (some ⟨g',0,none⟩) (j+1) cap')
     have hg5:w.grownBy (W4.setCell ⟨b,14,none⟩ (.slice (some ⟨g',0,none⟩) (j+1) cap')) (some b):=grown_trans (grown_own (grown_alloc (grown_trans hgr (grown_of_below _ hBr)) (.cells #[.func (.func Fn) #[] lbn] 194)) hgrow (fun x e=>(ownBlock_lt hrow e).2)) (grown_set W4 b 14 (.slice (some ⟨g',0,none⟩) (j+1) cap'))
     have ag24:Agr W2 (W4.setCell ⟨b,14,none⟩ (.slice (some ⟨g',0,none⟩) (j+1) cap')):=((Agr.below ((Below.refl _ W2).alloc (Nat.le_refl _) _)).trans (agr_row hgrow (hrow2.alloc _) hw0 (by decide))).trans (fagr_set hA4 hb0 14 _)
     have agr4:Agr wr (W4.setCell ⟨b,14,none⟩ (.slice (some ⟨g',0,none⟩) (j+1) cap')):=(Agr.below hBr).trans ag24
     have hE5:(W4.setCell ⟨b,14,none⟩ (.slice (some ⟨g',0,none⟩) (j+1) cap')).ownsRow w.heap.size 189 1 vE LE.length fE:=by
      have e1:=(ownsRow_below HAll.out.2.1 hBr).alloc (.cells #[.func (.func Fn) #[] lbn] 194)
      have e2:=ownsRow_keep e1 hgrow (fun r er=>.inr (fun e=>by
       obtain ⟨c,fz,hc⟩:=row_block e1 e
       obtain ⟨c2,fz2,hc2⟩:=row_block (hrow2.alloc (.cells #[.func (.func Fn) #[] lbn] 194)) er
       rw [hc] at hc2
       cases hc2))
      exact ownsRow_set_other e2 (row_ne_blk e2 hA4 (by decide)) 14 _
     go_roundw
     case rel=>exact ⟨j+1,(.slice (some ⟨g',0,none⟩) (j+1) cap'),_,by go_num,by omega,hA5,hr5,⟨(by rw [HTK.out];exact All2.snoc ⟨ix,hix,HNX.out,hF2.agr ag24⟩ (All2.mono (RL.agr agr4) HAll.out.1)),hE5,All2.mono (RE.agr agr4) HAll.out.2.2.1,HAll.out.2.2.2.agr agr4⟩,hagr.trans agr4,hg5⟩
     case measure=>simp [intOf];omega
    ·have hjI:¬ (j:Int)<(LL.length:Int):=by omega
     obtain rfl:j=LL.length:=by omega
     have hall:=HAll.out
     rw [List.take_length] at hall
     go_wp2_with fail
     go_end0
     exact ⟨rfl,⟨_,_,_,_,_,hAr,hall.2.1,hrow,hall.2.2.1,hall.1,hall.2.2.2,hagr,hgr⟩⟩
end Go.Proofs.YtcmgclckknpecaaGreatDoor
