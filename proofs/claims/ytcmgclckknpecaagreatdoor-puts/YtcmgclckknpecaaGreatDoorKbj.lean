import Derived.Test.YtcmgclckknpecaaGreatDoorKan
import Derived.Test.YtcmgclckknpecaaGreatDoorKay
import Derived.Test.YtcmgclckknpecaaGreatDoorKab
namespace Go.Proofs.YtcmgclckknpecaaGreatDoor
open Go.RowKit
set_option maxRecDepth 100000 in
set_option maxHeartbeats 4000000 in
theorem rfold_any (g cap:Nat) (xs:List (Nat × Nat × Nat)) (a:Option Addr) (w:World) (hC:Cr g 0 xs w) (ha:0<xs.length→a=some ⟨g,0,none⟩) (hg:0<xs.length→g<w.heap.size) (hl:xs.length≤268435456) :
  Calls Tryz.prog 77 #[.slice a xs.length cap] w fun e w'=>∃ v,e=.returned v∧w'.ownsRow w.heap.size 283 3 v (xs.flatMap Pl.fdC).length ((xs.flatMap Pl.fdC).flatMap enc)∧Below w.heap.size w w':=by
 obtain ⟨i0,hi,hz0,hz1,hz2⟩:=info_parts info283
 obtain ⟨ys,hys⟩:∃ ys,xs.flatMap Pl.fdC=ys:=⟨_,rfl⟩
 rw [hys]
 have HYS:Hid (xs.flatMap Pl.fdC=ys):=hys
 clear hys
 go_enter Tryz.func77,Tryz.ntmps77
 go_wp2
 go_loopw [3,4] (fun l i wr=>∃ k:Nat,i=.int .i64 (k:Int)∧k≤xs.length ∧
  wr.ownsRow w.heap.size 283 3 l ((xs.take k).flatMap Pl.fdC).length (((xs.take k).flatMap Pl.fdC).flatMap enc)∧Below w.heap.size w wr) (fun _ i _=>xs.length - (intOf i).toNat)
 case atStart=>exact ⟨0,rfl,by omega,by simpa using World.ownsRow_nil _ _ _ _,Below.refl _ _⟩
 case round =>
  obtain ⟨k,rfl,hk,hrow,hB⟩:=hrel
  by_cases hlt:k<xs.length
  ·obtain rfl:=ha (by omega)
   have hg':=hg (by omega)
   have hltI:(k:Int)<(xs.length:Int):=by omega
   obtain ⟨⟨c,F,T⟩,hx⟩:∃ x,xs[k]=x:=⟨_,rfl⟩
   obtain ⟨k0,k1,k2⟩:=(hC.below hB fun _=>hg').c k hlt
   rw [hx] at k0 k1 k2
   rw [Nat.zero_add] at k0 k1 k2
   simp only at k0 k1 k2
   have hs1:=hB.size
   obtain ⟨pre,hpre⟩:∃ pre,(xs.take k).flatMap Pl.fdC=pre:=⟨_,rfl⟩
   rw [hpre] at hrow
   have hpl:pre.length≤536870912:=by have:=Pl.fd_le (xs.take k);rw [hpre,List.length_take] at this;omega
   have HT:Hid ((xs.take (k+1)).flatMap Pl.fdC=pre++Pl.fdC (c,F,T)):=by
    show _=_
    rw [List.take_add_one,List.getElem?_eq_getElem hlt,hx,List.flatMap_append,hpre];simp
   clear hx hpre
   have hrowA:=hrow.alloc (.cells #[.int .i64 (c:Int),.int .i64 (F:Int),.int .i64 (T:Int)] 283)
   have hBA:Below w.heap.size w (wr.alloc (.cells #[.int .i64 (c:Int),.int .i64 (F:Int),.int .i64 (T:Int)] 283)):=hB.alloc hs1 _
   have HNB:Hid (∀ d:Int,((wr.alloc (.cells #[.int .i64 (c:Int),.int .i64 (F:Int),.int .i64 (T:Int)] 283)).alloc (.cells #[.int .i64 d,.int .i64 (F:Int),.int .i64 (T:Int)] 283)).heap[wr.heap.size+1]?=some (.cells #[.int .i64 d,.int .i64 (F:Int),.int .i64 (T:Int)] 283 (0,0))):=fun d=>by
    have:=heap_alloc_new (wr.alloc (.cells #[.int .i64 (c:Int),.int .i64 (F:Int),.int .i64 (T:Int)] 283)) (.cells #[.int .i64 d,.int .i64 (F:Int),.int .i64 (T:Int)] 283)
    simpa using this
   have HC3:Hid (∀ (o:Obj) (w3:World),((wr.alloc (.cells #[.int .i64 (c:Int),.int .i64 (F:Int),.int .i64 (T:Int)] 283)).alloc o).grownBy w3 _→w3.cell? ⟨wr.heap.size,0,none⟩=some (.int .i64 (c:Int))∧w3.cell? ⟨wr.heap.size,1,none⟩=some (.int .i64 (F:Int))∧w3.cell? ⟨wr.heap.size,2,none⟩=some (.int .i64 (T:Int))):=fun o w3 hgw=>by
    obtain ⟨hc3,_⟩:=step3 hrow hB hs1 (Below.refl _ wr) hgw
    rw [hc3 0,hc3 1,hc3 2]
    simp [go_sem]
   by_cases h1:c=64257
   ·subst h1
    have HF:Hid (Pl.fdC (64257,F,T)=[(102,F,T),(105,F,T)]):=rfl
    go_wp2_with (first | (at_builtin;(refine wpList_append_lies _ (by rfl) _ _ 203 (by rfl) w.heap.size 283 i0 (.agg #[.int .i64 0,.int .i64 0,.int .i64 0]) 3 24 Tryz.underlying203 hi hz0 hz1 hz2 rfl (by decide) _ pre.length (pre.flatMap enc) (by rfl) (hrowA.alloc _) ⟨wr.heap.size+1,0,none⟩ 1 1 [.int .i64 102,.int .i64 (F:Int),.int .i64 (T:Int)] (by rfl) rfl (World.news_of_block (HNB.out _)) (by simp [Value.oneCell']) (by decide) (by unfold maxLen;omega) (by omega) (by simp;omega) (wr.heap.size+1+1) (by simp) ?_);intro gn capn w3 hown1 hgrow hat hlt1;obtain ⟨c30,c31,c32⟩:=HC3.out _ _ hgrow;have hB3:Below w.heap.size w w3:=Below.grown (hBA.alloc (by simp;omega) _) hgrow (by simp;omega) fun j ej=>(ownBlock_lt hrow ej).2;have hs3:=hB3.size) | (at_builtin;go_must (refine wpList_append_lies _ (by rfl) _ _ 203 (by rfl) w.heap.size 283 i0 (.agg #[.int .i64 0,.int .i64 0,.int .i64 0]) 3 24 Tryz.underlying203 hi hz0 hz1 hz2 rfl (by decide) _ (pre.length+1) (pre.flatMap enc++[.int .i64 102,.int .i64 (F:Int),.int .i64 (T:Int)]) (by rfl) (hown1.alloc _) ⟨w3.heap.size,0,none⟩ 1 1 [.int .i64 105,.int .i64 (F:Int),.int .i64 (T:Int)] (by rfl) rfl (World.news_of_block (heap_alloc_new w3 _)) (by simp [Value.oneCell']) (by decide) (by unfold maxLen;omega) (by omega) (by simp;omega) (w3.heap.size+1) (by simp) ?_);intro gn2 capn2 w4 hown2 hgrow2 hat2 hlt2;have hB4:Below w.heap.size w w4:=Below.grown (hB3.alloc (by have:=hB3.size;omega) _) hgrow2 (by have:=hB3.size;simp;omega) fun j ej=>(ownBlock_lt hown1 ej).2))
    refine ⟨⟨k+1,by go_num,by omega,?_,hB4⟩,by simp [intOf];omega⟩
    rw [HT.out,HF.out]
    have e1:pre++[(102,F,T),(105,F,T)]=(pre++[(102,F,T)])++[(105,F,T)]:=by simp
    rw [e1,enc_snoc,enc_snoc,List.length_append,List.length_append]
    exact hown2
   ·have h1I:¬ (c:Int)=64257:=by omega
    by_cases h2:c=223
    ·subst h2
     have HF:Hid (Pl.fdC (223,F,T)=[(115,F,T),(115,F,T)]):=rfl
     go_wp2_with (first | (at_builtin;(refine wpList_append_lies _ (by rfl) _ _ 203 (by rfl) w.heap.size 283 i0 (.agg #[.int .i64 0,.int .i64 0,.int .i64 0]) 3 24 Tryz.underlying203 hi hz0 hz1 hz2 rfl (by decide) _ pre.length (pre.flatMap enc) (by rfl) (hrowA.alloc _) ⟨wr.heap.size+1,0,none⟩ 1 1 [.int .i64 115,.int .i64 (F:Int),.int .i64 (T:Int)] (by rfl) rfl (World.news_of_block (HNB.out _)) (by simp [Value.oneCell']) (by decide) (by unfold maxLen;omega) (by omega) (by simp;omega) (wr.heap.size+1+1) (by simp) ?_);intro gn capn w3 hown1 hgrow hat hlt1;obtain ⟨c30,c31,c32⟩:=HC3.out _ _ hgrow;have hB3:Below w.heap.size w w3:=Below.grown (hBA.alloc (by simp;omega) _) hgrow (by simp;omega) fun j ej=>(ownBlock_lt hrow ej).2;have hs3:=hB3.size) | (at_builtin;go_must (refine wpList_append_lies _ (by rfl) _ _ 203 (by rfl) w.heap.size 283 i0 (.agg #[.int .i64 0,.int .i64 0,.int .i64 0]) 3 24 Tryz.underlying203 hi hz0 hz1 hz2 rfl (by decide) _ (pre.length+1) (pre.flatMap enc++[.int .i64 115,.int .i64 (F:Int),.int .i64 (T:Int)]) (by rfl) (hown1.alloc _) ⟨w3.heap.size,0,none⟩ 1 1 [.int .i64 115,.int .i64 (F:Int),.int .i64 (T:Int)] (by rfl) rfl (World.news_of_block (heap_alloc_new w3 _)) (by simp [Value.oneCell']) (by decide) (by unfold maxLen;omega) (by omega) (by simp;omega) (w3.heap.size+1) (by simp) ?_);intro gn2 capn2 w4 hown2 hgrow2 hat2 hlt2;have hB4:Below w.heap.size w w4:=Below.grown (hB3.alloc (by have:=hB3.size;omega) _) hgrow2 (by have:=hB3.size;simp;omega) fun j ej=>(ownBlock_lt hown1 ej).2))
     refine ⟨⟨k+1,by go_num,by omega,?_,hB4⟩,by simp [intOf];omega⟩
     rw [HT.out,HF.out]
     have e1:pre++[(115,F,T),(115,F,T)]=(pre++[(115,F,T)])++[(115,F,T)]:=by simp
     rw [e1,enc_snoc,enc_snoc,List.length_append,List.length_append]
     exact hown2
    ·have h2I:¬ (c:Int)=223:=by omega
     by_cases h3:65281≤c∧c≤65374
     ·have HF:Hid (Pl.fdC (c,F,T)=[(c - 65248,F,T)]):=by show _=_;unfold Pl.fdC;rw [if_neg h1,if_neg h2,if_pos (by simp [Pl.wit];exact h3)]
      have hc1:(65281:Int)≤(c:Int):=by omega
      have hc2:(c:Int)≤65374:=by omega
      have hdI:(c:Int) - 65248=((c - 65248:Nat):Int):=by omega
      go_wp2_with (at_builtin;go_must (refine wpList_append_lies _ (by rfl) _ _ 203 (by rfl) w.heap.size 283 i0 (.agg #[.int .i64 0,.int .i64 0,.int .i64 0]) 3 24 Tryz.underlying203 hi hz0 hz1 hz2 rfl (by decide) _ pre.length (pre.flatMap enc) (by rfl) (hrowA.alloc _) ⟨wr.heap.size+1,0,none⟩ 1 1 [.int .i64 ((c - 65248:Nat):Int),.int .i64 (F:Int),.int .i64 (T:Int)] (by rfl) rfl (World.news_of_block (HNB.out _)) (by simp [Value.oneCell']) (by decide) (by unfold maxLen;omega) (by omega) (by simp;omega) (wr.heap.size+1+1) (by simp) ?_);intro gn capn w3 hown1 hgrow hat hlt1;obtain ⟨c30,c31,c32⟩:=HC3.out _ _ hgrow;have hB3:Below w.heap.size w w3:=Below.grown (hBA.alloc (by simp;omega) _) hgrow (by simp;omega) fun j ej=>(ownBlock_lt hrow ej).2;have hs3:=hB3.size)
      refine ⟨⟨k+1,by go_num,by omega,?_,hB3⟩,by simp [intOf];omega⟩
      rw [HT.out,HF.out,enc_snoc,List.length_append]
      exact hown1
     ·have h3':¬ Pl.wit c 65281 65374=true:=by simp [Pl.wit];omega
      by_cases h4:c=160
      ·subst h4
       have HF:Hid (Pl.fdC (160,F,T)=[(32,F,T)]):=rfl
       go_wp2_with (at_builtin;go_must (refine wpList_append_lies _ (by rfl) _ _ 203 (by rfl) w.heap.size 283 i0 (.agg #[.int .i64 0,.int .i64 0,.int .i64 0]) 3 24 Tryz.underlying203 hi hz0 hz1 hz2 rfl (by decide) _ pre.length (pre.flatMap enc) (by rfl) (hrowA.alloc _) ⟨wr.heap.size+1,0,none⟩ 1 1 [.int .i64 32,.int .i64 (F:Int),.int .i64 (T:Int)] (by rfl) rfl (World.news_of_block (HNB.out _)) (by simp [Value.oneCell']) (by decide) (by unfold maxLen;omega) (by omega) (by simp;omega) (wr.heap.size+1+1) (by simp) ?_);intro gn capn w3 hown1 hgrow hat hlt1;obtain ⟨c30,c31,c32⟩:=HC3.out _ _ hgrow;have hB3:Below w.heap.size w w3:=Below.grown (hBA.alloc (by simp;omega) _) hgrow (by simp;omega) fun j ej=>(ownBlock_lt hrow ej).2;have hs3:=hB3.size)
       refine ⟨⟨k+1,by go_num,by omega,?_,hB3⟩,by simp [intOf];omega⟩
       rw [HT.out,HF.out,enc_snoc,List.length_append]
       exact hown1
      ·have h4I:¬ (c:Int)=160:=by omega
       have HF:Hid (Pl.fdC (c,F,T)=[(c,F,T)]):=by show _=_;unfold Pl.fdC;rw [if_neg h1,if_neg h2,if_neg h3',if_neg h4]
       by_cases h5:65281≤c
       ·have hc1:(65281:Int)≤(c:Int):=by omega
        have hc2:¬ (c:Int)≤65374:=by omega
        go_wp2_with (at_builtin;go_must (refine wpList_append_lies _ (by rfl) _ _ 203 (by rfl) w.heap.size 283 i0 (.agg #[.int .i64 0,.int .i64 0,.int .i64 0]) 3 24 Tryz.underlying203 hi hz0 hz1 hz2 rfl (by decide) _ pre.length (pre.flatMap enc) (by rfl) (hrowA.alloc _) ⟨wr.heap.size+1,0,none⟩ 1 1 [.int .i64 (c:Int),.int .i64 (F:Int),.int .i64 (T:Int)] (by rfl) rfl (World.news_of_block (HNB.out _)) (by simp [Value.oneCell']) (by decide) (by unfold maxLen;omega) (by omega) (by simp;omega) (wr.heap.size+1+1) (by simp) ?_);intro gn capn w3 hown1 hgrow hat hlt1;obtain ⟨c30,c31,c32⟩:=HC3.out _ _ hgrow;have hB3:Below w.heap.size w w3:=Below.grown (hBA.alloc (by simp;omega) _) hgrow (by simp;omega) fun j ej=>(ownBlock_lt hrow ej).2;have hs3:=hB3.size)
        refine ⟨⟨k+1,by go_num,by omega,?_,hB3⟩,by simp [intOf];omega⟩
        rw [HT.out,HF.out,enc_snoc,List.length_append]
        exact hown1
       ·have hc1:¬ (65281:Int)≤(c:Int):=by omega
        go_wp2_with (at_builtin;go_must (refine wpList_append_lies _ (by rfl) _ _ 203 (by rfl) w.heap.size 283 i0 (.agg #[.int .i64 0,.int .i64 0,.int .i64 0]) 3 24 Tryz.underlying203 hi hz0 hz1 hz2 rfl (by decide) _ pre.length (pre.flatMap enc) (by rfl) (hrowA.alloc _) ⟨wr.heap.size+1,0,none⟩ 1 1 [.int .i64 (c:Int),.int .i64 (F:Int),.int .i64 (T:Int)] (by rfl) rfl (World.news_of_block (HNB.out _)) (by simp [Value.oneCell']) (by decide) (by unfold maxLen;omega) (by omega) (by simp;omega) (wr.heap.size+1+1) (by simp) ?_);intro gn capn w3 hown1 hgrow hat hlt1;obtain ⟨c30,c31,c32⟩:=HC3.out _ _ hgrow;have hB3:Below w.heap.size w w3:=Below.grown (hBA.alloc (by simp;omega) _) hgrow (by simp;omega) fun j ej=>(ownBlock_lt hrow ej).2;have hs3:=hB3.size)
        refine ⟨⟨k+1,by go_num,by omega,?_,hB3⟩,by simp [intOf];omega⟩
        rw [HT.out,HF.out,enc_snoc,List.length_append]
        exact hown1
  ·have hltI:¬ (k:Int)<(xs.length:Int):=by omega
   obtain rfl:k=xs.length:=by omega
   rw [List.take_length,HYS.out] at hrow
   go_wp2
   go_ret
   exact ⟨_,rfl,hrow,hB⟩
end Go.Proofs.YtcmgclckknpecaaGreatDoor
namespace Go.Proofs.YtcmgclckknpecaaGreatDoor
open Go.RowKit
theorem lead_at (b:Int) (w:World) (h0:0≤b) (h1:b≤255) (nL lo hi:Nat) (hn:Pl.lenOf b.toNat=nL) (hlo:Pl.loOf b.toNat=lo) (hhi:Pl.hiOf b.toNat=hi) :
  Calls Tryz.prog 221 #[.int .u8 b] w fun e w'=>e=.returned (.agg #[.int .i64 ((nL:Int) - 1),.int .u8 lo,.int .u8 hi])∧Below w.heap.size w w':=by
 subst hn hlo hhi;exact lead_any b w h0 h1
structure CharMem (w:World) (r l:Nat) (N lo hi:Int) (wr:World):Prop where
 below:Below w.heap.size w wr
 hr:w.heap.size≤r
 rl:r<l
 ls:l<wr.heap.size
 r0:∃ v,wr.cell? ⟨r,0,none⟩=some v
 r1:∃ v,wr.cell? ⟨r,1,none⟩=some v
 r2:∃ v,wr.cell? ⟨r,2,none⟩=some v
 fr:∀ o,wr.frozen? ⟨r,o,none⟩=false
 l0:wr.cell? ⟨l,0,none⟩=some (.int .i64 N)
 l1:wr.cell? ⟨l,1,none⟩=some (.int .u8 lo)
 l2:wr.cell? ⟨l,2,none⟩=some (.int .u8 hi)
 fl:∀ o,wr.frozen? ⟨l,o,none⟩=false
theorem CharMem.start {w w1:World} {z:Obj} (hz:z=.cells #[.int .i64 0,.int .i64 0,.int .i64 0] 283) (hb:Below (w.heap.size+1) (w.alloc z) w1) (N lo hi:Int) :
  CharMem w w.heap.size w1.heap.size N lo hi (w1.alloc (.cells #[.int .i64 N,.int .u8 lo,.int .u8 hi] 378)):=by
 have hs:=hb.size
 simp at hs
 have e:∀ o,(w1.alloc (.cells #[.int .i64 N,.int .u8 lo,.int .u8 hi] 378)).cell? ⟨w.heap.size,o,none⟩=(w.alloc z).cell? ⟨w.heap.size,o,none⟩:=fun o=>by
  rw [← hb.cell (p:=⟨w.heap.size,o,none⟩) (by simp)]
  exact ((Below.refl w1.heap.size w1).alloc (Nat.le_refl _) _).cell (p:=⟨w.heap.size,o,none⟩) (by simp;omega)
 have ef:∀ o,(w1.alloc (.cells #[.int .i64 N,.int .u8 lo,.int .u8 hi] 378)).frozen? ⟨w.heap.size,o,none⟩=(w.alloc z).frozen? ⟨w.heap.size,o,none⟩:=fun o=>by
  rw [← hb.frozen (p:=⟨w.heap.size,o,none⟩) (by simp)]
  exact ((Below.refl w1.heap.size w1).alloc (Nat.le_refl _) _).frozen (p:=⟨w.heap.size,o,none⟩) (by simp;omega)
 subst hz
 refine ⟨?_,Nat.le_refl _,by omega,by simp,⟨_,(e 0).trans (by simp [go_sem];rfl)⟩,⟨_,(e 1).trans (by simp [go_sem];rfl)⟩,⟨_,(e 2).trans (by simp [go_sem];rfl)⟩,fun o=>(ef o).trans (by simp [go_sem]),by simp [go_sem],by simp [go_sem],by simp [go_sem],fun o=>by simp [go_sem]⟩
 exact (((Below.refl w.heap.size w).alloc (Nat.le_refl _) _).trans (hb.mono (by omega))).alloc (by omega) _
end Go.Proofs.YtcmgclckknpecaaGreatDoor
namespace Go.Proofs.YtcmgclckknpecaaGreatDoor
open Go.RowKit
theorem good_iff {b k c lo hi:Nat} (hlo:lo=if k=1 then Pl.loOf b else 128) (hhi:hi=if k=1 then Pl.hiOf b else 191):Pl.good b k c=true ↔ lo≤c∧c≤hi:=by
 unfold Pl.good
 by_cases h:k=1
 ·simp only [if_pos h] at hlo hhi ⊢;subst hlo hhi;simp
 ·simp only [if_neg h] at hlo hhi ⊢;subst hlo hhi;simp
theorem res_cells {w w1:World} {z:Obj} (hz:z=.cells #[.int .i64 0,.int .i64 0,.int .i64 0] 283) (hb:Below (w.heap.size+1) (w.alloc z) w1) :
  w.heap.size<w1.heap.size∧w1.cell? ⟨w.heap.size,0,none⟩=some (.int .i64 0)∧w1.cell? ⟨w.heap.size,1,none⟩=some (.int .i64 0)∧w1.cell? ⟨w.heap.size,2,none⟩=some (.int .i64 0) ∧
   (∀ o,w1.frozen? ⟨w.heap.size,o,none⟩=false)∧Below w.heap.size w w1:=by
 have hs:=hb.size
 subst hz
 refine ⟨by simp at hs;omega,(hb.cell (p:=⟨w.heap.size,0,none⟩) (by simp)).trans (by simp [go_sem]),(hb.cell (p:=⟨w.heap.size,1,none⟩) (by simp)).trans (by simp [go_sem]),
  (hb.cell (p:=⟨w.heap.size,2,none⟩) (by simp)).trans (by simp [go_sem]),fun o=>(hb.frozen (p:=⟨w.heap.size,o,none⟩) (by simp)).trans (by simp [go_sem]),?_⟩
 exact ((Below.refl w.heap.size w).alloc (Nat.le_refl _) _).trans (hb.mono (by omega))
theorem ret_agg {a b c a' b' c':Int} (h:a=a') (h2:b=b') (h3:c=c'):Ending.returned (.agg #[.int .i64 a,.int .i64 b,.int .i64 c])=.returned (.agg #[.int .i64 a',.int .i64 b',.int .i64 c']):=by rw [h,h2,h3]
theorem res18 {tmps:Array Value} {w:World} {b:Nat} {a c d:Value} (hp:tmps[4]?=some (.pointer (some ⟨b,0,none⟩))) (c0:w.cell? ⟨b,0,none⟩=some a) (c1:w.cell? ⟨b,1,none⟩=some c) (c2:w.cell? ⟨b,2,none⟩=some d) :
  (results Tryz.f136 tmps).run Tryz.prog w=.ok (.agg #[a,c,d]) w:=by
 simp [results,Tryz.results136,go_sem,hp,c0,c1,c2]
theorem three_cells {X:World} {b:Nat} (a c d:Value) (x0:∃ v,X.cell? ⟨b,0,none⟩=some v) (x1:∃ v,X.cell? ⟨b,1,none⟩=some v) (x2:∃ v,X.cell? ⟨b,2,none⟩=some v) :
  (((X.setCell ⟨b,0,none⟩ a).setCell ⟨b,1,none⟩ c).setCell ⟨b,2,none⟩ d).cell? ⟨b,0,none⟩=some a ∧
  (((X.setCell ⟨b,0,none⟩ a).setCell ⟨b,1,none⟩ c).setCell ⟨b,2,none⟩ d).cell? ⟨b,1,none⟩=some c ∧
  (((X.setCell ⟨b,0,none⟩ a).setCell ⟨b,1,none⟩ c).setCell ⟨b,2,none⟩ d).cell? ⟨b,2,none⟩=some d:=by
 obtain ⟨u0,x0⟩:=x0
 obtain ⟨u1,x1⟩:=x1
 obtain ⟨u2,x2⟩:=x2
 refine ⟨?_,?_,?_⟩
 ·rw [World.cell?_setCell_other _ _ _ _ (by simp),World.cell?_setCell_other _ _ _ _ (by simp)]
  exact World.cell?_setCell_same _ _ _ x0
 ·rw [World.cell?_setCell_other _ _ _ _ (by simp)]
  exact World.cell?_setCell_same _ _ _ ((World.cell?_setCell_other _ _ _ _ (by simp)).trans x1)
 ·exact World.cell?_setCell_same _ _ _ ((World.cell?_setCell_other _ _ _ _ (by simp)).trans ((World.cell?_setCell_other _ _ _ _ (by simp)).trans x2))
theorem three_below {B:Nat} {a X:World} {b:Nat} (h:Below B a X) (hb:B≤b) (x y z:Value):Below B a (((X.setCell ⟨b,0,none⟩ x).setCell ⟨b,1,none⟩ y).setCell ⟨b,2,none⟩ z) :=
 ((h.setCell (p:=⟨b,0,none⟩) hb x).setCell (p:=⟨b,1,none⟩) hb y).setCell (p:=⟨b,2,none⟩) hb z
theorem CharMem.drewN {w:World} {r l:Nat} {N lo hi:Int} {wr:World} (h:CharMem w r l N lo hi wr) (n:Nat):CharMem w r l N lo hi (wr.drewN n) :=
 ⟨below_drewN h.below n,h.hr,h.rl,h.ls,h.r0,h.r1,h.r2,h.fr,h.l0,h.l1,h.l2,h.fl⟩
theorem CharMem.next {w:World} {r l:Nat} {N lo hi:Int} {wr:World} (h:CharMem w r l N lo hi wr) (lo' hi':Int):CharMem w r l N lo' hi' ((wr.setCell ⟨l,1,none⟩ (.int .u8 lo')).setCell ⟨l,2,none⟩ (.int .u8 hi')):=by
 have hrl:=h.rl
 have o:∀ j,((wr.setCell ⟨l,1,none⟩ (.int .u8 lo')).setCell ⟨l,2,none⟩ (.int .u8 hi')).cell? ⟨r,j,none⟩=wr.cell? ⟨r,j,none⟩:=fun j=>by
  rw [World.cell?_setCell_other _ _ _ _ (by intro e;cases e;omega),World.cell?_setCell_other _ _ _ _ (by intro e;cases e;omega)]
 refine ⟨(h.below.setCell (p:=⟨l,1,none⟩) (by have:=h.hr;show w.heap.size≤l;omega) _).setCell (p:=⟨l,2,none⟩) (by have:=h.hr;show w.heap.size≤l;omega) _,h.hr,h.rl,by simpa using h.ls,?_,?_,?_,?_,?_,?_,?_,?_⟩
 ·rw [o];exact h.r0
 ·rw [o];exact h.r1
 ·rw [o];exact h.r2
 ·intro j;rw [World.frozen?_setCell,World.frozen?_setCell];exact h.fr j
 ·rw [World.cell?_setCell_other _ _ _ _ (by simp),World.cell?_setCell_other _ _ _ _ (by simp)];exact h.l0
 ·rw [World.cell?_setCell_other _ _ _ _ (by simp)];exact World.cell?_setCell_same _ _ _ h.l1
 ·exact World.cell?_setCell_same _ _ _ ((World.cell?_setCell_other _ _ _ _ (by simp)).trans h.l2)
 ·intro j;rw [World.frozen?_setCell,World.frozen?_setCell];exact h.fl j
theorem idx_at (s:ByteArray) (i j:Nat) (h:i+j<s.size) (w:World) :
  (Instr.index 9 (.string s) (.int .i64 ((i:Int)+(j:Int)))).run Tryz.prog w=.ok (.int .u8 (s[i+j].toNat:Int)) w:=by
 rw [run_index_string w 9 s .i64 _ Tryz.underlying9,dif_pos ⟨by omega,by omega⟩]
 have e:((i:Int)+(j:Int)).toNat=i+j:=by omega
 simp only [e]
set_option maxHeartbeats 2000000 in
theorem char_core (s:ByteArray) (i:Nat) (w:World) (hi:i<s.size) (hm:s.size≤120) (f:Nat→Nat) (HF:Hid (∀ j,(h:i+j<s.size)→f j=(s[i+j]).toNat))
  (HF0:Hid (f 0=s[i].toNat)) (nL lo hiB:Nat) (hn4:nL≤4) (HnL:Hid (Pl.lenOf (f 0)=nL)) (HLO:Hid (Pl.loOf (f 0)=lo)) (HHI:Hid (Pl.hiOf (f 0)=hiB)) :
  Calls Tryz.prog 136 #[.string s,.int .i64 i] w fun e w' =>
   e=.returned (.agg #[.int .i64 (Pl.code f (s.size - i)),.int .i64 i,.int .i64 ((i+Pl.size f (s.size - i):Nat):Int)])∧Below w.heap.size w w':=by
 have hi':(i:Int)<(s.size:Int):=by omega
 have hb0:=UInt8.toNat_lt s[i]
 have hf0:f 0<256:=by rw [HF0.out];omega
 have HC:Hid (∀ w,Calls Tryz.prog 221 #[.int .u8 (s[i].toNat:Int)] w fun e w'=>e=.returned (.agg #[.int .i64 ((nL:Int) - 1),.int .u8 lo,.int .u8 hiB])∧Below w.heap.size w w'):=fun w =>
  lead_at (s[i].toNat:Int) w (by omega) (by omega) nL lo hiB (by rw [Int.toNat_natCast,← HF0.out];exact HnL.out) (by rw [Int.toNat_natCast,← HF0.out];exact HLO.out) (by rw [Int.toNat_natCast,← HF0.out];exact HHI.out)
 have HCD:Hid (Pl.codeTo f 1=if nL=2 then s[i].toNat % 32 else if nL=3 then s[i].toNat % 16 else if nL=4 then s[i].toNat % 8 else s[i].toNat):=by
  show Pl.cd0 (f 0)=_
  rw [Pl.cd0,HnL.out,HF0.out]
 obtain rfl | ⟨m,rfl⟩:nL=0∨∃ m,nL=m+1:=by cases nL <;> simp
 ·
  go_enter Tryz.func136,Tryz.ntmps136
  go_wp2_with fail
  refine (HC.out _).mono ?_
  rintro e w1 ⟨rfl,hb⟩
  obtain ⟨hz,r0,r1,r2,fr,hB⟩:=res_cells rfl (by simpa using hb)
  clear hb
  have HSJ:Hid (Pl.size f (s.size - i)=1):=Pl.sz_no (by rintro ⟨h,_⟩;rw [HnL.out] at h;omega) rfl
  go_wp2
  have h3:=three_cells (.int .i64 65533) (.int .i64 i) (.int .i64 ((i:Int)+1)) ⟨_,r0⟩ ⟨_,r1⟩ ⟨_,r2⟩
  have hk:∀ (o:Obj) (j:Nat),((((w1.setCell ⟨w.heap.size,0,none⟩ (.int .i64 65533)).setCell ⟨w.heap.size,1,none⟩ (.int .i64 i)).setCell ⟨w.heap.size,2,none⟩ (.int .i64 ((i:Int)+1))).alloc o).cell? ⟨w.heap.size,j,none⟩ =
    (((w1.setCell ⟨w.heap.size,0,none⟩ (.int .i64 65533)).setCell ⟨w.heap.size,1,none⟩ (.int .i64 i)).setCell ⟨w.heap.size,2,none⟩ (.int .i64 ((i:Int)+1))).cell? ⟨w.heap.size,j,none⟩:=fun o j =>
   ((Below.refl w1.heap.size _).alloc (by simp) o).cell (p:=⟨w.heap.size,j,none⟩) hz
  refine bodyPost_ret (res18 rfl ((hk _ 0).trans h3.1) ((hk _ 1).trans h3.2.1) ((hk _ 2).trans h3.2.2)) rfl ⟨ret_agg ?_ rfl ?_,?_⟩
  ·rw [Pl.code_no (by rw [HSJ.out,HnL.out];omega)];rfl
  ·rw [HSJ.out];omega
  ·exact (three_below hB (Nat.le_refl _) _ _ _).alloc (by simp;omega) _
 ·obtain ⟨N,hN⟩:∃ N:Int,((m+1:Nat):Int) - 1=N:=⟨_,rfl⟩
  rw [hN] at HC
  have hNm:N≤m∧(m:Int)≤N:=by omega
  clear hN
  have hm3:m=0∨m=1∨m=2∨m=3:=by omega
  have hN0:0≤N:=by omega
  have hNd:decide (N<0)=false:=by simp;omega
  have key:∃ a b c:Bool,(N == 1)=a∧(N == 2)=b∧(N == 3)=c∧((a=true∧m=1)∨(a=false∧b=true∧m=2)∨(a=false∧b=false∧c=true∧m=3)∨(a=false∧b=false∧c=false∧m=0)):=by
   refine ⟨_,_,_,rfl,rfl,rfl,?_⟩
   simp only [beq_iff_eq,beq_eq_false_iff_ne]
   omega
  obtain ⟨a,b,c,b1,b2,b3,habc⟩:=key
  go_enter Tryz.func136,Tryz.ntmps136
  go_wp2_with fail
  refine (HC.out _).mono ?_
  rintro e w1 ⟨rfl,hb⟩
  have hcm:=CharMem.start rfl (by simpa using hb) N (lo:Int) (hiB:Int)
  obtain ⟨W0,hW0⟩:∃ W0,w1.alloc (.cells #[.int .i64 N,.int .u8 (lo:Int),.int .u8 (hiB:Int)] 378)=W0:=⟨_,rfl⟩
  rw [hW0] at hcm
  have HW0:Hid (w1.alloc (.cells #[.int .i64 N,.int .u8 (lo:Int),.int .u8 (hiB:Int)] 378)=W0):=hW0
  obtain ⟨hz,r0,r1,r2,fr,hB⟩:=res_cells rfl (by simpa using hb)
  clear hW0 hb HC
  rcases habc with ⟨rfl,hm'⟩ | ⟨rfl,rfl,hm'⟩ | ⟨rfl,rfl,rfl,hm'⟩ | ⟨rfl,rfl,rfl,hm'⟩
  all_goals
   go_wp2
   rw [HW0.out]
   clear r0 r1 r2 fr hB HW0
   go_loopw [6,7] (fun c k wr=>∃ j:Nat,k=.int .i64 j∧c=.int .i64 (Pl.codeTo f j)∧1≤j∧j≤m+1∧i+j≤s.size∧Hid (Pl.sz f (s.size - i) (4 - j) j=Pl.size f (s.size - i)) ∧
    CharMem w w.heap.size w1.heap.size N ((if j=1 then lo else 128:Nat):Int) ((if j=1 then hiB else 191:Nat):Int) wr) (fun _ k _=>4 - (intOf k).toNat)
   case atStart =>
    refine ⟨1,rfl,?_,by omega,by omega,by omega,rfl,hcm⟩
    have hc:=HCD.out
    rw [hm'] at hc
    rw [hc]
    first | rw [i64_and31] | rw [i64_and15] | rw [i64_and7] | skip
    simp
   case round =>
    obtain ⟨j,rfl,rfl,hj1,hjm,hjs,HS,hcmr⟩:=hrel
    obtain ⟨lo',hlo'⟩:∃ lo':Nat,lo'=if j=1 then lo else 128:=⟨_,rfl⟩
    obtain ⟨hi2,hhi2⟩:∃ hi2:Nat,hi2=if j=1 then hiB else 191:=⟨_,rfl⟩
    rw [← hlo',← hhi2] at hcmr
    have HG:Hid (∀ c,Pl.good (f 0) j c=true ↔ lo'≤c∧c≤hi2):=fun c=>good_iff (by rw [hlo',HLO.out]) (by rw [hhi2,HHI.out])
    clear hlo' hhi2
    have hcmr2:=hcmr
    obtain ⟨hbel,hrr,hrl,hls,⟨v0,r0⟩,⟨v1,r1⟩,⟨v2,r2⟩,fr,l0,l1,l2,fl⟩:=hcmr2
    have hcle:(Pl.codeTo f j:Int)≤67108863:=by have:=Pl.codeTo_le f hf0 (k:=j) (by omega);omega
    have hwr:IntKind.i64.wrap ((i:Int)+(j:Int))=(i:Int)+(j:Int):=by rw [IntKind.wrap_i64];omega
    by_cases hk:j≤m
    ·by_cases hm0:m=0
     ·exfalso;omega
     clear hm'
     have hkN:(j:Int)≤N:=by omega
     by_cases hin:i+j<s.size
     ·have HFJ:Hid (f j=s[i+j].toNat):=HF.out j hin
      have hbk:=UInt8.toNat_lt s[i+j]
      have hidx:=idx_at s i j hin
      have hge:decide ((s.size:Int)≤(i:Int)+(j:Int))=false:=by simp;omega
      by_cases h1:s[i+j].toNat<lo'
      ·have h1':(s[i+j].toNat:Int)<(lo':Int):=by omega
       have HSJ:Hid (Pl.size f (s.size - i)=j):=Pl.sz_no (by rintro ⟨_,_,hg⟩;rw [HFJ.out] at hg;have:=(HG.out _).1 hg;omega) HS.out
       have h1d:decide ((s[i+j].toNat:Int)<(lo':Int))=true:=by simp;omega
       go_wp2_with fail
       go_quiet (fail)
       go_wp2
       have h3:=three_cells (X:=wr.drewN nq) (.int .i64 65533) (.int .i64 i) (.int .i64 ((i:Int)+(j:Int))) ⟨_,r0⟩ ⟨_,r1⟩ ⟨_,r2⟩
       refine bodyPost_ret (res18 rfl h3.1 h3.2.1 h3.2.2) rfl ⟨ret_agg ?_ rfl ?_,?_⟩
       ·rw [Pl.code_no (by rw [HSJ.out,HnL.out];omega)];rfl
       ·rw [HSJ.out];omega
       ·exact three_below (below_drewN hbel _) (Nat.le_refl _) _ _ _
      ·have h1d:decide ((s[i+j].toNat:Int)<(lo':Int))=false:=by simp;omega
       by_cases h2:hi2<s[i+j].toNat
       ·have h2d:decide ((hi2:Int)<(s[i+j].toNat:Int))=true:=by simp;omega
        have HSJ:Hid (Pl.size f (s.size - i)=j):=Pl.sz_no (by rintro ⟨_,_,hg⟩;rw [HFJ.out] at hg;have:=(HG.out _).1 hg;omega) HS.out
        go_wp2_with fail
        go_quiet (fail)
        go_wp2
        have h3:=three_cells (X:=wr.drewN nq) (.int .i64 65533) (.int .i64 i) (.int .i64 ((i:Int)+(j:Int))) ⟨_,r0⟩ ⟨_,r1⟩ ⟨_,r2⟩
        refine bodyPost_ret (res18 rfl h3.1 h3.2.1 h3.2.2) rfl ⟨ret_agg ?_ rfl ?_,?_⟩
        ·rw [Pl.code_no (by rw [HSJ.out,HnL.out];omega)];rfl
        ·rw [HSJ.out];omega
        ·exact three_below (below_drewN hbel _) (Nat.le_refl _) _ _ _
       ·have h2d:decide ((hi2:Int)<(s[i+j].toNat:Int))=false:=by simp;omega
        have HSN:Hid (Pl.sz f (s.size - i) (4 - (j+1)) (j+1)=Pl.size f (s.size - i)) :=
         Pl.sz_yes hj1 (by rw [HnL.out];omega) (by omega) (by rw [HFJ.out];exact (HG.out _).2 ⟨by omega,by omega⟩) HS.out
        have HCN:Hid (Pl.codeTo f (j+1)=Pl.codeTo f j*64+s[i+j].toNat % 64):=by
         show Pl.codeTo f (j+1)=_
         rw [Pl.codeTo_succ f hj1,HFJ.out]
        have h63:bits .and .u8 (s[i+j].toNat:Int) 63=(s[i+j].toNat:Int) % 64:=u8_and63 _ (by omega) (by omega)
        go_wp2_with fail
        go_quiet (fail)
        go_wp2
        go_roundw
        case rel =>
         refine ⟨j+1,by go_num,?_,by omega,by omega,by omega,HSN,?_⟩
         ·rw [HCN.out]
          simp
         ·rw [if_neg (by omega),if_neg (by omega)]
          exact (hcmr.drewN nq).next 128 191
        case measure=>simp [intOf];omega
     ·have hge:decide ((s.size:Int)≤(i:Int)+(j:Int))=true:=by simp;omega
      have HSJ:Hid (Pl.size f (s.size - i)=j):=Pl.sz_no (by rintro ⟨_,hg,_⟩;omega) HS.out
      go_wp2_with fail
      go_quiet (fail)
      go_wp2
      have h3:=three_cells (X:=wr.drewN nq) (.int .i64 65533) (.int .i64 i) (.int .i64 ((i:Int)+(j:Int))) ⟨_,r0⟩ ⟨_,r1⟩ ⟨_,r2⟩
      refine bodyPost_ret (res18 rfl h3.1 h3.2.1 h3.2.2) rfl ⟨ret_agg ?_ rfl ?_,?_⟩
      ·rw [Pl.code_no (by rw [HSJ.out,HnL.out];omega)];rfl
      ·rw [HSJ.out];omega
      ·exact three_below (below_drewN hbel _) (Nat.le_refl _) _ _ _
    ·have hkN:N<(j:Int):=by omega
     have HSJ:Hid (Pl.size f (s.size - i)=j):=Pl.sz_no (by rintro ⟨hg,_⟩;rw [HnL.out] at hg;omega) HS.out
     have hjm1:j=m+1:=by omega
     have HJM:Hid (j=m+1):=hjm1
     clear hjm1 hm'
     go_wp2
     have h3:=three_cells (X:=wr) (.int .i64 (Pl.codeTo f j)) (.int .i64 i) (.int .i64 ((i:Int)+N+1)) ⟨_,r0⟩ ⟨_,r1⟩ ⟨_,r2⟩
     refine bodyPost_ret (res18 rfl h3.1 h3.2.1 h3.2.2) rfl ⟨ret_agg ?_ rfl ?_,?_⟩
     ·rw [Pl.code_yes (by rw [HSJ.out,HnL.out];exact HJM.out),HnL.out,← HJM.out]
     ·rw [HSJ.out];omega
     ·exact three_below hbel (Nat.le_refl _) _ _ _
theorem char_any (s:ByteArray) (i:Nat) (w:World) (hi:i<s.size) (hm:s.size≤120) :
  Calls Tryz.prog 136 #[.string s,.int .i64 i] w fun e w' =>
   e=.returned (.agg #[.int .i64 (Pl.code (fun j=>Pl.bt s (i+j)) (s.size - i)),.int .i64 i,.int .i64 ((i+Pl.size (fun j=>Pl.bt s (i+j)) (s.size - i):Nat):Int)])∧Below w.heap.size w w' :=
 char_core s i w hi hm (fun j=>Pl.bt s (i+j)) (fun _ h=>Pl.bt_eq h) (Pl.bt_eq hi) _ _ _ (Pl.lenOf_le _) rfl rfl rfl
end Go.Proofs.YtcmgclckknpecaaGreatDoor
namespace Go.Proofs.YtcmgclckknpecaaGreatDoor
open Go.RowKit
theorem info32:(Tryz.prog.info? 283).map (fun i=>(i.zero,i.size,i.bytes))=some (some (.agg #[.int .i64 0,.int .i64 0,.int .i64 0]),3,24):=by kernel_rfl
set_option maxHeartbeats 1000000 in
theorem chars_any (s:ByteArray) (w:World) (hm:s.size≤120) :
  Calls Tryz.prog 75 #[.string s] w fun e w'=>∃ v,e=.returned v∧w'.ownsRow w.heap.size 283 3 v (Pl.cs (Pl.bt s) s.size s.size 0).length ((Pl.cs (Pl.bt s) s.size s.size 0).flatMap enc)∧Below w.heap.size w w':=by
 obtain ⟨i0,hi,hz0,hz1,hz2⟩:=info_parts info32
 obtain ⟨xs,hxs⟩:∃ xs,Pl.cs (Pl.bt s) s.size s.size 0=xs:=⟨_,rfl⟩
 rw [hxs]
 have hlen:xs.length≤120:=by have:=Pl.cs_length (Pl.bt s) s.size s.size 0;rw [hxs] at this;omega
 have HXS:Hid (Pl.cs (Pl.bt s) s.size s.size 0=xs):=hxs
 clear hxs
 go_enter Tryz.func75,Tryz.ntmps75
 go_wp2
 go_loopw [3,4] (fun l i wr=>∃ (k m:Nat) (pre:List (Nat × Nat × Nat)),i=.int .i64 k∧k≤s.size∧s.size≤k+m∧Hid (pre++Pl.cs (Pl.bt s) s.size m k=xs) ∧
  wr.ownsRow w.heap.size 283 3 l pre.length (pre.flatMap enc)∧Below w.heap.size w wr) (fun _ i _=>s.size - (intOf i).toNat)
 case atStart=>exact ⟨0,s.size,[],rfl,by omega,by omega,HXS,World.ownsRow_nil _ _ _ _,Below.refl _ _⟩
 case round =>
  obtain ⟨k,m,pre,rfl,hk,hkm,HX,hrow,hB⟩:=hrel
  by_cases hlt:k<s.size
  ·have hlt':(k:Int)<(s.size:Int):=by omega
   obtain ⟨m',hm',hcs⟩:=Pl.cs_cons (g:=Pl.bt s) (m:=m) hlt hkm
   have hsz1:=Pl.size_ge (fun j=>Pl.bt s (k+j)) (s.size - k)
   have hsz2:=Pl.size_le (fun j=>Pl.bt s (k+j)) (s.size - k) (by omega)
   have hch:=char_any s k
   obtain ⟨cd,hcd⟩:∃ cd,Pl.code (fun j=>Pl.bt s (k+j)) (s.size - k)=cd:=⟨_,rfl⟩
   obtain ⟨to,hto⟩:∃ to,k+Pl.size (fun j=>Pl.bt s (k+j)) (s.size - k)=to:=⟨_,rfl⟩
   have hto1:k<to:=by omega
   have hto2:to≤s.size:=by omega
   rw [hcd,hto] at hcs hch
   rw [hto] at hm'
   have HX2:Hid ((pre++[(cd,k,to)])++Pl.cs (Pl.bt s) s.size m' to=xs):=by
    have:=HX.out;rw [hcs] at this;show _=_;rw [← this];simp
   have hpl:pre.length<120:=by
    have:=congrArg List.length HX2.out;simp at this;omega
   have HCH:Hid (∀ w,k<s.size→s.size≤120→Calls Tryz.prog 136 #[.string s,.int .i64 k] w fun e w'=>e=.returned (.agg #[.int .i64 cd,.int .i64 k,.int .i64 (to:Int)])∧Below w.heap.size w w'):=hch
   clear hch hcs hcd hto hsz1 hsz2 HX
   go_wp2_with fail
   refine (HCH.out _ hlt hm).mono ?_
   rintro e w2 ⟨rfl,h2⟩
   have hrow2:=ownsRow_below hrow h2
   have hs2:=h2.size
   have hs1:=hB.size
   have hnb:∀ C,((w2.alloc C).alloc (.cells #[.int .i64 (cd:Int),.int .i64 (k:Int),.int .i64 (to:Int)] 283)).heap[w2.heap.size+1]?=some (.cells #[.int .i64 (cd:Int),.int .i64 (k:Int),.int .i64 (to:Int)] 283 (0,0)):=fun C=>by
    have:=heap_alloc_new (w2.alloc C) (.cells #[.int .i64 (cd:Int),.int .i64 (k:Int),.int .i64 (to:Int)] 283)
    simpa using this
   have HNB:Hid (∀ C,((w2.alloc C).alloc (.cells #[.int .i64 (cd:Int),.int .i64 (k:Int),.int .i64 (to:Int)] 283)).heap[w2.heap.size+1]?=some (.cells #[.int .i64 (cd:Int),.int .i64 (k:Int),.int .i64 (to:Int)] 283 (0,0))):=hnb
   clear hnb
   go_wp2_with (at_builtin;go_must (refine wpList_append_lies _ (by rfl) _ _ 203 (by rfl) w.heap.size 283 i0 (.agg #[.int .i64 0,.int .i64 0,.int .i64 0]) 3 24 Tryz.underlying203 hi hz0 hz1 hz2 rfl (by decide) _ pre.length (pre.flatMap enc) (by rfl) ((hrow2.alloc _).alloc _) ⟨w2.heap.size+1,0,none⟩ 1 1 (enc (cd,k,to)) (by rfl) rfl (World.news_of_block (HNB.out _)) (enc_one _) (by decide) (by unfold maxLen;omega) (by omega) (by simp;omega) (w2.heap.size+1+1) (by simp) ?_);intro g cap w3 hown1 hgrow hat hlt1;obtain ⟨hc3,hB3⟩:=step3 hrow hB hs1 h2 hgrow;have hc32:w3.cell? ⟨w2.heap.size,2,none⟩=some (.int .i64 (to:Int)):=(hc3 2).trans (by simp [go_sem]);clear hc3)
   refine ⟨⟨to,m',pre++[(cd,k,to)],rfl,hto2,hm',HX2,?_,hB3⟩,by simp [intOf];omega⟩
   rw [enc_snoc,List.length_append]
   exact hown1
  ·have hx:pre=xs:=by have:=HX.out;rw [Pl.cs_nil hlt] at this;simpa using this
   subst hx
   go_wp2
   go_ret
   exact ⟨_,rfl,hrow,hB⟩
end Go.Proofs.YtcmgclckknpecaaGreatDoor
