import Derived.Test.YtcmgclckknpecaaGreatDoorKam
import Derived.Test.YtcmgclckknpecaaGreatDoorKah
namespace Go.Proofs.YtcmgclckknpecaaGreatDoor
open Go.RowKit
theorem grown_set_new {A B:World} {row:Option Nat} (h:A.grownBy B row) {b:Nat} (hb:A.heap.size≤b) (o:Nat) (v:Value):A.grownBy (B.setCell ⟨b,o,none⟩ v) row :=
 ⟨h.os,h.tape,h.output,by simpa using h.size,fun k hk hr=>(Below.heap_setCell _ _ _ k (by show k≠b;omega)).trans (h.block k hk hr)⟩
theorem grown_alloc {A B:World} {row:Option Nat} (h:A.grownBy B row) (o:Obj):A.grownBy (B.alloc o) row:=grown_trans h (World.grownBy_alloc B o row)
theorem Rd.other {rb:Nat} {s:ByteArray} {a:Nat} {w:World} (h:Rd rb s a w) {b:Nat} (hne:b≠rb) (o:Nat) (v:Value):Rd rb s a (w.setCell ⟨b,o,none⟩ v) :=
 ⟨(World.cell?_setCell_other _ _ _ _ (by intro e;cases e;exact hne rfl)).trans h.c0,(World.cell?_setCell_other _ _ _ _ (by intro e;cases e;exact hne rfl)).trans h.c1,fun o=>(World.frozen?_setCell _ _ _ _).trans (h.fz o),by simpa using h.lt⟩
theorem two_cells {X:World} {b:Nat} (a c:Value) {u0 u1:Value} (x0:X.cell? ⟨b,0,none⟩=some u0) (x1:X.cell? ⟨b,1,none⟩=some u1) :
  ((X.setCell ⟨b,0,none⟩ a).setCell ⟨b,1,none⟩ c).cell? ⟨b,0,none⟩=some a∧((X.setCell ⟨b,0,none⟩ a).setCell ⟨b,1,none⟩ c).cell? ⟨b,1,none⟩=some c:=by
 refine ⟨?_,?_⟩
 ·rw [World.cell?_setCell_other _ _ _ _ (by simp)];exact World.cell?_setCell_same _ _ _ x0
 ·exact World.cell?_setCell_same _ _ _ ((World.cell?_setCell_other _ _ _ _ (by simp)).trans x1)
theorem res40 {tmps:Array Value} {w:World} {b:Nat} {x y:Value} (hp:tmps[2]?=some (.pointer (some ⟨b,0,none⟩))) {k:Value} (h3:tmps[3]?=some k) (c0:w.cell? ⟨b,0,none⟩=some x) (c1:w.cell? ⟨b,1,none⟩=some y) :
  (results Tryz.f186 tmps).run Tryz.prog w=.ok (.tuple #[.agg #[x,y],k]) w:=by
 simp [results,Tryz.results186,go_sem,hp,h3,c0,c1]
set_option maxHeartbeats 1000000 in
theorem pair_any (rb:Nat) (s:ByteArray) (a:Nat) (w:World) (hm:s.size≤80) (ha:a≤s.size) (h:Rd rb s a w) :
  Calls Tryz.prog 186 #[.pointer (some ⟨rb,0,none⟩)] w fun e w'=>∃ t u,e=.returned (.tuple #[.agg #[.string t,.string u],.bool (Pl.pairP s a).1])∧Rd rb s (Pl.pairP s a).2 w'∧w.grownBy w' (some rb)∧Hid ((Pl.pairP s a).1=true→(t,u)=Pl.pairC s a):=by
 have hwf:=Pl.word_fits s a ha
 obtain ⟨⟨o1,b⟩,hw⟩:∃ r,Pl.word s a=r:=⟨_,rfl⟩
 rw [hw] at hwf
 have hlt:=h.lt
 have h1:=word_any rb s a (w.alloc (.cells #[.string ⟨#[]⟩,.string ⟨#[]⟩] 357)) hm ha (h.of_below ((Below.refl _ w).alloc (Nat.le_refl _) _))
 rw [hw] at h1
 have H1:Hid (Calls Tryz.prog 188 #[.pointer (some ⟨rb,0,none⟩)] (w.alloc (.cells #[.string ⟨#[]⟩,.string ⟨#[]⟩] 357)) fun e w'=>∃ t,e=.returned (.tuple #[.string t,.bool o1])∧Rd rb s b w'∧(w.alloc (.cells #[.string ⟨#[]⟩,.string ⟨#[]⟩] 357)).grownBy w' (some rb)∧Hid (t=Pl.wordC s a)):=h1
 clear h1
 have g0:w.grownBy (w.alloc (.cells #[.string ⟨#[]⟩,.string ⟨#[]⟩] 357)) (some rb):=World.grownBy_alloc _ _ _
 have keep:∀ w1,(w.alloc (.cells #[.string ⟨#[]⟩,.string ⟨#[]⟩] 357)).grownBy w1 (some rb)→w1.cell? ⟨w.heap.size,0,none⟩=some (.string ⟨#[]⟩)∧w1.cell? ⟨w.heap.size,1,none⟩=some (.string ⟨#[]⟩)∧∀ o,w1.frozen? ⟨w.heap.size,o,none⟩=false:=fun w1 hg1 =>
  ⟨(hg1.cell_far ⟨w.heap.size,0,none⟩ (by simp) (by simp;omega)).trans (by simp [go_sem]),(hg1.cell_far ⟨w.heap.size,1,none⟩ (by simp) (by simp;omega)).trans (by simp [go_sem]),
   fun o=>(hg1.frozen_far ⟨w.heap.size,o,none⟩ (by simp) (by simp;omega)).trans (by simp [go_sem])⟩
 have HK:Hid (∀ w1,(w.alloc (.cells #[.string ⟨#[]⟩,.string ⟨#[]⟩] 357)).grownBy w1 (some rb)→w1.cell? ⟨w.heap.size,0,none⟩=some (.string ⟨#[]⟩)∧w1.cell? ⟨w.heap.size,1,none⟩=some (.string ⟨#[]⟩)∧∀ o,w1.frozen? ⟨w.heap.size,o,none⟩=false):=keep
 clear keep
 cases o1 with
 | false =>
  have hp:Pl.pairP s a=(false,b):=by simp [Pl.pairP,Pl.thenP,hw]
  rw [hp]
  clear hp hw
  go_enter Tryz.func186,Tryz.ntmps186
  go_wp2_with fail
  refine H1.out.mono ?_
  rintro e w1 ⟨t,rfl,hr1,hg1,HT1⟩
  obtain ⟨r0,r1,fr⟩:=HK.out w1 hg1
  go_wp2
  have h2:=two_cells (.string ⟨#[]⟩) (.string ⟨#[]⟩) r0 r1
  exact bodyPost_ret (res40 rfl rfl h2.1 h2.2) rfl ⟨_,_,rfl,(hr1.other (by omega) _ _).other (by omega) _ _,grown_set_new (grown_set_new (grown_trans g0 hg1) (Nat.le_refl _) _ _) (Nat.le_refl _) _ _,fun h=>by cases h⟩
 | true =>
  obtain ⟨⟨o2,c⟩,hs2⟩:∃ r,Pl.sign s 61 b=r:=⟨_,rfl⟩
  have hsf:=Pl.sign_fits s 61 b hwf.2
  rw [hs2] at hsf
  have hsg:=fun w1 h=>sign_at rb s b 61 61 rfl w1 hm hwf.2 h
  rw [hs2] at hsg
  have HSG:Hid (∀ w1,Rd rb s b w1→Calls Tryz.prog 124 #[.pointer (some ⟨rb,0,none⟩),.int .u8 61] w1 fun e w'=>e=.returned (.bool o2)∧Rd rb s c w'∧w1.grownBy w' (some rb)):=hsg
  clear hsg
  cases o2 with
  | false =>
   have hp:Pl.pairP s a=(false,c):=by simp [Pl.pairP,Pl.thenP,hw,hs2]
   rw [hp]
   clear hp hw hs2
   go_enter Tryz.func186,Tryz.ntmps186
   go_wp2_with fail
   refine H1.out.mono ?_
   rintro e w1 ⟨t,rfl,hr1,hg1,HT1⟩
   go_wp2_with fail
   refine (HSG.out _ hr1).mono ?_
   rintro e w2 ⟨rfl,hr2,hg2⟩
   obtain ⟨r0,r1,fr⟩:=HK.out w2 (grown_trans hg1 hg2)
   go_wp2
   have h2:=two_cells (.string ⟨#[]⟩) (.string ⟨#[]⟩) r0 r1
   exact bodyPost_ret (res40 rfl rfl h2.1 h2.2) rfl ⟨_,_,rfl,(hr2.other (by omega) _ _).other (by omega) _ _,grown_set_new (grown_set_new (grown_trans g0 (grown_trans hg1 hg2)) (Nat.le_refl _) _ _) (Nat.le_refl _) _ _,fun h=>by cases h⟩
  | true =>
   have hp:Pl.pairP s a=Pl.word s c:=by simp [Pl.pairP,Pl.thenP,hw,hs2]
   have HC:Hid (c=(Pl.word s a).2+1):=by
    have h2:=hs2
    unfold Pl.sign at h2
    show c=_
    rw [hw]
    split at h2 <;> simp at h2
    exact h2.symm
   rw [hp]
   have hw3:=fun w1 h=>word_any rb s c w1 hm hsf.2 h
   obtain ⟨⟨o3,d⟩,hw4⟩:∃ r,Pl.word s c=r:=⟨_,rfl⟩
   rw [hw4] at hw3 ⊢
   have HW3:Hid (∀ w1,Rd rb s c w1→Calls Tryz.prog 188 #[.pointer (some ⟨rb,0,none⟩)] w1 fun e w'=>∃ t,e=.returned (.tuple #[.string t,.bool o3])∧Rd rb s d w'∧w1.grownBy w' (some rb)∧Hid (t=Pl.wordC s c)):=hw3
   clear hp hw hs2 hw3 hw4
   go_enter Tryz.func186,Tryz.ntmps186
   go_wp2_with fail
   refine H1.out.mono ?_
   rintro e w1 ⟨t,rfl,hr1,hg1,HT1⟩
   go_wp2_with fail
   refine (HSG.out _ hr1).mono ?_
   rintro e w2 ⟨rfl,hr2,hg2⟩
   go_wp2_with fail
   refine (HW3.out _ hr2).mono ?_
   rintro e w3 ⟨u,rfl,hr3,hg3,HT3⟩
   obtain ⟨r0,r1,fr⟩:=HK.out w3 (grown_trans hg1 (grown_trans hg2 hg3))
   go_wp2
   have h2:=two_cells (.string t) (.string u) r0 r1
   exact bodyPost_ret (res40 rfl rfl h2.1 h2.2) rfl ⟨_,_,rfl,(hr3.other (by omega) _ _).other (by omega) _ _,grown_set_new (grown_set_new (grown_trans g0 (grown_trans hg1 (grown_trans hg2 hg3))) (Nat.le_refl _) _ _) (Nat.le_refl _) _ _,fun _=>by rw [HT1.out,HT3.out,HC.out];rfl⟩
end Go.Proofs.YtcmgclckknpecaaGreatDoor
namespace Go.Proofs.YtcmgclckknpecaaGreatDoor
open Go.RowKit
structure Nms (g:Nat) (names:List ByteArray) (w:World):Prop where
 cells:∀ i (hi:i<names.length),w.cell? ⟨g,i,none⟩=some (.string (names[i]))
 lt:g<w.heap.size
theorem Nms.of_below {g:Nat} {names:List ByteArray} {w w':World} (h:Nms g names w) (hb:Below w.heap.size w w'):Nms g names w' :=
 ⟨fun i hi=>(hb.cell (p:=⟨g,i,none⟩) h.lt).trans (h.cells i hi),Nat.lt_of_lt_of_le h.lt hb.size⟩
set_option maxHeartbeats 1000000 in
theorem oneOf_any (rb g:Nat) (s:ByteArray) (a:Nat) (names:List ByteArray) (w:World) (hm:s.size≤80) (ha:a≤s.size) (h:Rd rb s a w) (hN:Nms g names w)
  (hsz:∀ i (hi:i<names.length),(names[i]).size≤8) (hlen:names.length≤8) (res:Option Nat) (b:Nat) (HR:Hid (Pl.nm s a names 0 0=(res,b))) :
  Calls Tryz.prog 184 #[.pointer (some ⟨rb,0,none⟩),.slice (some ⟨g,0,none⟩) names.length names.length] w fun e w' =>
   ((∃ i,∃ hi:i<names.length,res=some i∧e=.returned (.tuple #[.string (names[i]),.bool true]))∨(res=none∧e=.returned (.tuple #[.string ⟨#[]⟩,.bool false])))∧Rd rb s b w'∧w.grownBy w' (some rb):=by
 have ha':(a:Int)≤(s.size:Int):=by omega
 go_enter Tryz.func184,Tryz.ntmps184
 go_wp2
 go_loopw [6,12] (fun lg i wr=>∃ k m:Nat,i=.int .i64 (k:Int)∧lg=.int .i64 (m:Int)∧k≤names.length∧m≤8∧a+m≤s.size∧Hid (Pl.nm s a (names.drop k) k m=(res,b))∧Rd rb s a wr∧Nms g names wr∧w.grownBy wr (some rb)) (fun _ i _=>10 - (intOf i).toNat)
 case atStart=>exact ⟨0,0,rfl,rfl,by omega,by omega,by omega,HR,h,hN,World.grownBy.refl _ _⟩
 case round =>
  obtain ⟨k,m,rfl,rfl,hk,hm8,ham,HL,hr,hNr,hg⟩:=hrel
  have c0:=hr.c0
  have c1:=hr.c1
  have fz:=hr.fz
  by_cases hkl:k<names.length
  ·have hkl':(k:Int)<(names.length:Int):=by omega
   have hck:=hNr.cells k hkl
   have hsk:=hsz k hkl
   obtain ⟨nmk,hnmk⟩:∃ nmk,names[k]=nmk:=⟨_,rfl⟩
   rw [hnmk] at hck hsk
   have hdrop:names.drop k=nmk :: names.drop (k+1):=by rw [← hnmk];exact List.drop_eq_getElem_cons hkl
   have hl:=HL.out
   rw [hdrop] at hl
   unfold Pl.nm at hl
   have hcom:=common_any (s.extract a s.size) nmk
   have hcl:=Pl.com_le s a nmk ha
   rw [com_extract s a nmk ha] at hcom
   obtain ⟨C,hC⟩:∃ C,Pl.com s a nmk=C:=⟨_,rfl⟩
   rw [hC] at hl hcom hcl
   have HCOM:Hid (∀ w,(s.extract a s.size).size≤80→nmk.size≤80→Calls Tryz.prog 285 #[.string (s.extract a s.size),.string nmk] w fun e w'=>e=.returned (.int .i64 (C:Int))∧∃ q,w'=w.drewN q):=hcom
   have hes:(s.extract a s.size).size≤80:=by simp;omega
   clear hcom hC hdrop HL
   by_cases hfull:C=nmk.size
   ·rw [if_pos hfull] at hl
    simp only [Prod.mk.injEq] at hl
    obtain ⟨hres,hb⟩:=hl
    have hq:((C:Int) == (nmk.size:Int))=true:=by simp;omega
    have HB:Hid (a+C=b):=by rw [hfull];exact hb
    have HRES:Hid (res=some k):=hres.symm
    have HNK:Hid (names[k]=nmk):=hnmk
    clear hb hres hfull hnmk
    go_wp2_with fail
    go_quiet ((go_at_call 285;exact Calls.quiet_of ((HCOM.out _ hes (by omega)))))
    go_wp2
    go_ret2
    have e1:((a+C:Nat):Int)=(a:Int)+(C:Int):=by omega
    refine ⟨.inl ⟨k,hkl,HRES.out,by rw [HNK.out];rfl⟩,?_,grown_trans hg (grown_trans (grown_drewN _ _ _) (grown_set _ _ _ _))⟩
    rw [← e1,← HB.out]
    exact (hr.of_below (below_drewN (Below.refl _ _) _)).set _
   ·rw [if_neg hfull] at hl
    have hq:((C:Int) == (nmk.size:Int))=false:=by simp;omega
    have HL2:Hid (Pl.nm s a (names.drop (k+1)) (k+1) (max m C)=(res,b)):=hl
    clear hl hfull hnmk
    go_wp2_with fail
    go_quiet ((go_at_call 285;exact Calls.quiet_of ((HCOM.out _ hes (by omega)))))
    go_wp2
    have e1:((max m C:Nat):Int)=max (m:Int) (C:Int):=by omega
    exact ⟨⟨k+1,max m C,by go_num,by rw [e1],by omega,by omega,by omega,HL2,hr.of_below (below_drewN (Below.refl _ _) _),hNr.of_below (below_drewN (Below.refl _ _) _),grown_trans hg (grown_drewN _ _ _)⟩,by simp [intOf];omega⟩
  ·have hl:=HL.out
   rw [List.drop_of_length_le (by omega)] at hl
   simp only [Pl.nm,Prod.mk.injEq] at hl
   obtain ⟨hres,hb⟩:=hl
   have HB:Hid (a+m=b):=hb
   have HRES:Hid (res=none):=hres.symm
   clear hb hres HL
   go_wp2
   go_ret2
   have e1:((a+m:Nat):Int)=(a:Int)+(m:Int):=by omega
   refine ⟨.inr ⟨HRES.out,rfl⟩,?_,grown_trans hg (grown_set _ _ _ _)⟩
   rw [← e1,← HB.out]
   exact hr.set _
end Go.Proofs.YtcmgclckknpecaaGreatDoor
namespace Go.Proofs.YtcmgclckknpecaaGreatDoor
open Go.RowKit
theorem ownsRow_grown {A B:World} {base:Nat} {e:TypeId} {size:Nat} {v:Value} {n:Nat} {xs:List Value} {rb:Nat} (h:A.ownsRow base e size v n xs) (hg:A.grownBy B (some rb)) (hb:rb<base):B.ownsRow base e size v n xs:=by
 refine ⟨h.1,?_⟩
 rcases h.2 with h | ⟨g,cap,cur,hv,hg2,hh,r⟩
 ·exact .inl h
 ·exact .inr ⟨g,cap,cur,hv,hg2,(hg.block g (Array.getElem?_eq_some_iff.1 hh).1 (by intro e;cases e;omega)).trans hh,r⟩
theorem grown_own {A B C:World} {row own:Option Nat} (h:A.grownBy B row) (k:B.grownBy C own) (hn:∀ g,own=some g→A.heap.size≤g):A.grownBy C row :=
 ⟨k.os.trans h.os,k.tape.trans h.tape,k.output.trans h.output,Nat.le_trans h.size k.size,fun i hi hr=>(k.block i (Nat.lt_of_lt_of_le hi h.size) (fun e=>by have:=hn i e.symm;omega)).trans (h.block i hi hr)⟩
theorem Rd.grown {rb:Nat} {s:ByteArray} {a:Nat} {w w':World} {own:Option Nat} (h:Rd rb s a w) (hg:w.grownBy w' own) (hne:own≠some rb):Rd rb s a w' :=
 ⟨(hg.cell_far ⟨rb,0,none⟩ h.lt (Ne.symm hne)).trans h.c0,(hg.cell_far ⟨rb,1,none⟩ h.lt (Ne.symm hne)).trans h.c1,fun o=>(hg.frozen_far ⟨rb,o,none⟩ h.lt (Ne.symm hne)).trans (h.fz o),Nat.lt_of_lt_of_le h.lt hg.size⟩
theorem info9:(Tryz.prog.info? 9).map (fun i=>(i.zero,i.size,i.bytes))=some (some (.string ⟨#[]⟩),1,16):=by kernel_rfl
theorem info95:(Tryz.prog.info? 357).map (fun i=>(i.zero,i.size,i.bytes))=some (some (.agg #[.string ⟨#[]⟩,.string ⟨#[]⟩]),2,32):=by kernel_rfl
theorem word_one {s:ByteArray} {a b:Nat} (h:Pl.word s a=(true,b)):a<b:=by
 have h1:(Pl.word s a).1=true:=by rw [h]
 have h2:(Pl.word s a).2=b:=by rw [h]
 rw [← h2];exact of_decide_eq_true h1
namespace Pl
def rowP (s:ByteArray) (item:Nat→Bool × Nat):Nat→Nat→Bool × Nat
 | 0,a=>(false,a)
 | m+1,a=>thenP (item a) fun b=>if byteIn s 44 44 b=true then rowP s item m (b+1) else (true,b)
theorem lst_row (s:ByteArray) (item:Nat→Bool × Nat):∀ m a,lst s item m a=thenP (rowP s item m a) (sign s 41)
 | 0,a=>by simp [lst,rowP,thenP]
 | m+1,a=>by
  have ih:=lst_row s item m ((item a).2+1)
  by_cases h:(item a).1=true
  ·by_cases h4:byteIn s 44 44 (item a).2=true
   ·simpa only [lst,rowP,thenP,h,h4,if_true] using ih
   ·simp [lst,rowP,thenP,h,h4]
  ·simp [lst,rowP,thenP,h]
theorem row_fits (s:ByteArray) (item:Nat→Bool × Nat) (hi:Fits s item):∀ m,Fits s (rowP s item m)
 | 0=>fun a ha=>⟨Nat.le_refl _,ha⟩
 | m+1=>fun a ha=>by
  unfold rowP
  refine thenP_fits (hi a ha) fun b hb=>?_
  by_cases h:byteIn s 44 44 b=true
  ·have:=byteIn_lt h
   have:=row_fits s item hi m (b+1) (by omega)
   simp only [h,if_true];omega
  ·simp only [h];exact ⟨Nat.le_refl _,hb⟩
end Pl
theorem rowC_more {α:Type} {s:ByteArray} {item:Nat→Bool × Nat} {cont:Nat→α} {m a b:Nat} (hw:item a=(true,b)) (h:Pl.byteIn s 44 44 b=true):Pl.rowC s item cont (m+1) a=cont a :: Pl.rowC s item cont m (b+1):=by
 rw [Pl.rowC,hw,if_pos h]
theorem rowC_last {α:Type} {s:ByteArray} {item:Nat→Bool × Nat} {cont:Nat→α} {m a b:Nat} (hw:item a=(true,b)) (h:¬ Pl.byteIn s 44 44 b=true):Pl.rowC s item cont (m+1) a=[cont a]:=by
 rw [Pl.rowC,hw,if_neg h]
def penc (p:ByteArray × ByteArray):List Value:=[.string p.1,.string p.2]
set_option maxHeartbeats 1000000 in
theorem wrow_any (rb:Nat) (s:ByteArray) (a:Nat) (w:World) (hm:s.size≤80) (ha:a≤s.size) (h:Rd rb s a w) (R:Bool × Nat) (HR:Hid (Pl.rowP s (Pl.word s) (s.size+1) a=R)) (L:List ByteArray) (HLF:Hid (Pl.rowC s (Pl.word s) (Pl.wordC s) (s.size+1) a=L)) :
  Calls Tryz.prog 287 #[.pointer (some ⟨rb,0,none⟩),.int .u8 44,.func (.func 188) #[.pointer (some ⟨rb,0,none⟩)] #[]] w fun e w'=>∃ p n c,e=.returned (.tuple #[.slice p n c,.bool R.1])∧Rd rb s R.2 w'∧w.grownBy w' (some rb)∧Hid (R.1=true→w'.ownsRow w.heap.size 9 1 (.slice p n c) L.length (L.map .string)):=by
 obtain ⟨o,d⟩:=R
 obtain ⟨i0,hi,hz0,hz1,hz2⟩:=info_parts info9
 have hrb:=h.lt
 go_enter Tryz.func287,Tryz.ntmps287
 go_wp2
 go_loopw [8,9,10] (fun l _ _ wr=>∃ (b m:Nat) (xs:List Value),Hid (∃ K:List ByteArray,xs=K.map .string∧K++Pl.rowC s (Pl.word s) (Pl.wordC s) m b=L)∧b≤s.size∧s.size<b+m∧Hid (Pl.rowP s (Pl.word s) m b=(o,d))∧xs.length≤b∧wr.ownsRow w.heap.size 9 1 l xs.length xs∧Rd rb s b wr∧w.grownBy wr (some rb)) (fun _ _ _ wr=>200 - plc rb wr)
 case atStart=>exact ⟨a,s.size+1,[],⟨[],rfl,HLF.out⟩,ha,by omega,HR,by simp,World.ownsRow_nil _ _ _ _,h,World.grownBy.refl _ _⟩
 case round =>
  obtain ⟨b,m,xs,HK,hb,hbm,HL,hxl,hrow,hr,hg⟩:=hrel
  obtain ⟨m,rfl⟩:∃ m',m=m'+1:=⟨m - 1,by omega⟩
  have hwf:=Pl.word_fits s b hb
  have hwd:=fun w1 h=>word_any rb s b w1 hm hb h
  obtain ⟨⟨o1,c⟩,hw⟩:∃ r,Pl.word s b=r:=⟨_,rfl⟩
  rw [hw] at hwf hwd
  have HWD:Hid (∀ w1,Rd rb s b w1→Calls Tryz.prog 188 #[.pointer (some ⟨rb,0,none⟩)] w1 fun e w'=>∃ t,e=.returned (.tuple #[.string t,.bool o1])∧Rd rb s c w'∧w1.grownBy w' (some rb)∧Hid (t=Pl.wordC s b)):=hwd
  clear hwd
  have hl:=HL.out
  unfold Pl.rowP at hl
  rw [hw] at hl
  cases o1 with
  | false =>
   simp only [Pl.thenP,Bool.false_eq_true,if_false,Prod.mk.injEq] at hl
   obtain ⟨rfl,rfl⟩:=hl
   clear hw
   go_wp2_with fail
   refine (HWD.out _ hr).mono ?_
   rintro e w1 ⟨t,rfl,hr1,hg1,HT1⟩
   go_wp2
   go_ret2
   exact ⟨_,_,_,rfl,hr1,grown_trans hg hg1,fun h=>by cases h⟩
  | true =>
   have hbc:=word_one hw
   have hsg:=fun w1 h=>sign_at rb s c 44 44 rfl w1 hm hwf.2 h
   have hsz:=hg.size
   simp only [Pl.thenP,if_true] at hl
   have HW:Hid (Pl.word s b=(true,c)):=hw
   clear hw HL
   by_cases h44:Pl.byteIn s 44 44 c=true
   ·rw [if_pos h44] at hl
    have hc44:=(Pl.byteIn_lt h44).1
    simp only [Pl.sign,h44,if_true] at hsg
    have HSG:Hid (∀ w1,Rd rb s c w1→Calls Tryz.prog 124 #[.pointer (some ⟨rb,0,none⟩),.int .u8 44] w1 fun e w'=>e=.returned (.bool true)∧Rd rb s (c+1) w'∧w1.grownBy w' (some rb)):=hsg
    have HL2:Hid (Pl.rowP s (Pl.word s) m (c+1)=(o,d)):=hl
    have H44:Hid (Pl.byteIn s 44 44 c=true):=h44
    clear hsg hl h44
    go_wp2_with fail
    refine (HWD.out _ hr).mono ?_
    rintro e w1 ⟨t,rfl,hr1,hg1,HT1⟩
    have hrow1:=ownsRow_grown hrow hg1 hrb
    have hs1:=hg1.size
    go_wp2_with (at_builtin;go_must (refine wpList_append_lies _ (by rfl) _ _ 63 (by rfl) w.heap.size 9 i0 (.string ⟨#[]⟩) 1 16 Tryz.underlying63 hi hz0 hz1 hz2 rfl (by decide) _ xs.length xs (by rfl) (hrow1.alloc _) ⟨w1.heap.size,0,none⟩ 1 1 [.string t] (by rfl) rfl (World.news_of_block (heap_alloc_new w1 _)) (by simp [Value.oneCell']) (by decide) (by unfold maxLen;omega) (by omega) (by simp;omega) (w1.heap.size+1) (by simp) ?_);intro g cap w2 hown hgrow hat hlt2)
    have hr2:Rd rb s c w2:=(hr1.of_below ((Below.refl _ w1).alloc (Nat.le_refl _) _)).grown hgrow (by intro e;have:=(ownBlock_lt hrow1 e).2;omega)
    have hg2:w.grownBy w2 (some rb):=grown_own (grown_alloc (grown_trans hg hg1) _) hgrow (fun g e=>(ownBlock_lt hrow1 e).2)
    refine (HSG.out _ hr2).mono ?_
    rintro e w3 ⟨rfl,hr3,hg3⟩
    go_wp2
    go_roundw
    case rel =>
     refine ⟨c+1,m,xs++[.string t],?_,by omega,by omega,HL2,by simp;omega,?_,hr3,grown_trans hg2 hg3⟩
     ·obtain ⟨K,hK,hKL⟩:=HK.out
      exact ⟨K++[t],by rw [hK];simp,by rw [← hKL,rowC_more HW.out H44.out,HT1.out];simp⟩
     ·rw [List.length_append]
      exact ownsRow_grown hown hg3 hrb
    case measure=>rw [plc_eq hr3,plc_eq hr];omega
   ·have h44':Pl.byteIn s 44 44 c=false:=eq_false_of_ne_true h44
    rw [if_neg h44] at hl
    simp only [Pl.sign,h44',Bool.false_eq_true,if_false] at hsg
    have HSG:Hid (∀ w1,Rd rb s c w1→Calls Tryz.prog 124 #[.pointer (some ⟨rb,0,none⟩),.int .u8 44] w1 fun e w'=>e=.returned (.bool false)∧Rd rb s c w'∧w1.grownBy w' (some rb)):=hsg
    simp only [Prod.mk.injEq] at hl
    obtain ⟨rfl,rfl⟩:=hl
    have H44:Hid (¬ Pl.byteIn s 44 44 c=true):=h44
    clear hsg h44 h44'
    go_wp2_with fail
    refine (HWD.out _ hr).mono ?_
    rintro e w1 ⟨t,rfl,hr1,hg1,HT1⟩
    have hrow1:=ownsRow_grown hrow hg1 hrb
    have hs1:=hg1.size
    go_wp2_with (at_builtin;go_must (refine wpList_append_lies _ (by rfl) _ _ 63 (by rfl) w.heap.size 9 i0 (.string ⟨#[]⟩) 1 16 Tryz.underlying63 hi hz0 hz1 hz2 rfl (by decide) _ xs.length xs (by rfl) (hrow1.alloc _) ⟨w1.heap.size,0,none⟩ 1 1 [.string t] (by rfl) rfl (World.news_of_block (heap_alloc_new w1 _)) (by simp [Value.oneCell']) (by decide) (by unfold maxLen;omega) (by omega) (by simp;omega) (w1.heap.size+1) (by simp) ?_);intro g cap w2 hown hgrow hat hlt2)
    have hr2:Rd rb s c w2:=(hr1.of_below ((Below.refl _ w1).alloc (Nat.le_refl _) _)).grown hgrow (by intro e;have:=(ownBlock_lt hrow1 e).2;omega)
    have hg2:w.grownBy w2 (some rb):=grown_own (grown_alloc (grown_trans hg hg1) _) hgrow (fun g e=>(ownBlock_lt hrow1 e).2)
    refine (HSG.out _ hr2).mono ?_
    rintro e w3 ⟨rfl,hr3,hg3⟩
    go_wp2
    go_ret2
    refine ⟨_,_,_,rfl,hr3,grown_trans hg2 hg3,?_⟩
    obtain ⟨K,hK,hKL⟩:=HK.out
    have hL:xs++[.string t]=L.map .string:=by rw [← hKL,rowC_last HW.out H44.out,hK,HT1.out];simp
    have hl2:xs.length+1=L.length:=by have:=congrArg List.length hL;simpa using this
    have:=ownsRow_grown hown hg3 hrb
    rw [hL,hl2] at this
    rw [← hl2] at this ⊢
    exact this
set_option maxHeartbeats 1000000 in
theorem words_any (rb:Nat) (s:ByteArray) (a:Nat) (w:World) (hm:s.size≤80) (ha:a≤s.size) (h:Rd rb s a w) (R:Bool × Nat) (HR:Hid (Pl.lst s (Pl.word s) (s.size+1) a=R)) (L:List ByteArray) (HLF:Hid (Pl.rowC s (Pl.word s) (Pl.wordC s) (s.size+1) a=L)) :
  Calls Tryz.prog 187 #[.pointer (some ⟨rb,0,none⟩),.func (.func 188) #[.pointer (some ⟨rb,0,none⟩)] #[]] w fun e w'=>∃ p n c,e=.returned (.tuple #[.slice p n c,.bool R.1])∧Rd rb s R.2 w'∧w.grownBy w' (some rb)∧Hid (R.1=true→w'.ownsRow w.heap.size 9 1 (.slice p n c) L.length (L.map .string)):=by
 obtain ⟨o,d⟩:=R
 have hrw:=wrow_any rb s a w hm ha h _ (rfl:Pl.rowP s (Pl.word s) (s.size+1) a=_) L HLF
 have hrf:=Pl.row_fits s _ (Pl.word_fits s) (s.size+1) a ha
 have hR:=HR.out
 rw [Pl.lst_row] at hR
 obtain ⟨⟨o1,b⟩,hb⟩:∃ r,Pl.rowP s (Pl.word s) (s.size+1) a=r:=⟨_,rfl⟩
 rw [hb] at hrw hrf hR
 have HRW:Hid (Calls Tryz.prog 287 #[.pointer (some ⟨rb,0,none⟩),.int .u8 44,.func (.func 188) #[.pointer (some ⟨rb,0,none⟩)] #[]] w fun e w'=>∃ p n c,e=.returned (.tuple #[.slice p n c,.bool o1])∧Rd rb s b w'∧w.grownBy w' (some rb)∧Hid (o1=true→w'.ownsRow w.heap.size 9 1 (.slice p n c) L.length (L.map .string))):=hrw
 have hrb:=h.lt
 clear hrw hb HR
 cases o1 with
 | false =>
  simp only [Pl.thenP,Bool.false_eq_true,if_false,Prod.mk.injEq] at hR
  obtain ⟨rfl,rfl⟩:=hR
  go_enter Tryz.func187,Tryz.ntmps187
  go_wp2_with fail
  refine HRW.out.mono ?_
  rintro e w1 ⟨p,n,c,rfl,hr1,hg1,HRO⟩
  go_wp2
  go_ret2
  exact ⟨_,_,_,rfl,hr1,hg1,fun h=>by cases h⟩
 | true =>
  simp only [Pl.thenP,if_true] at hR
  have hs4:=fun w1 h=>sign_at rb s b 41 41 rfl w1 hm hrf.2 h
  rw [hR] at hs4
  have HS4:Hid (∀ w1,Rd rb s b w1→Calls Tryz.prog 124 #[.pointer (some ⟨rb,0,none⟩),.int .u8 41] w1 fun e w'=>e=.returned (.bool o)∧Rd rb s d w'∧w1.grownBy w' (some rb)):=hs4
  clear hR hs4
  go_enter Tryz.func187,Tryz.ntmps187
  go_wp2_with fail
  refine HRW.out.mono ?_
  rintro e w1 ⟨p,n,c,rfl,hr1,hg1,HRO⟩
  go_wp2_with fail
  refine (HS4.out _ hr1).mono ?_
  rintro e w2 ⟨rfl,hr2,hg2⟩
  go_wp2
  go_ret2
  exact ⟨_,_,_,rfl,hr2,grown_trans hg1 hg2,by first | exact fun _=>ownsRow_grown (HRO.out (by simp)) hg2 hrb | exact ownsRow_grown (HRO.out (by simp)) hg2 hrb⟩
end Go.Proofs.YtcmgclckknpecaaGreatDoor
namespace Go.Proofs.YtcmgclckknpecaaGreatDoor
open Go.RowKit
theorem pair_one {s:ByteArray} {a b:Nat} (ha:a≤s.size) (h:Pl.pairP s a=(true,b)):a<b:=by
 unfold Pl.pairP Pl.thenP at h
 by_cases h1:(Pl.word s a).1=true
 ·rw [if_pos h1] at h
  dsimp only at h
  have hw:=word_one (s:=s) (a:=a) (b:=(Pl.word s a).2) (by rw [← h1])
  have hf:=Pl.word_fits s a ha
  have h2:=Pl.thenP_fits (r:=Pl.sign s 61 (Pl.word s a).2) (Pl.sign_fits s 61 _ hf.2) (Pl.word_fits s)
  unfold Pl.thenP at h2
  rw [h] at h2
  simp only at h2
  omega
 ·rw [if_neg h1] at h;simp at h
set_option maxHeartbeats 1000000 in
theorem prow_any (rb:Nat) (s:ByteArray) (a:Nat) (w:World) (hm:s.size≤80) (ha:a≤s.size) (h:Rd rb s a w) (R:Bool × Nat) (HR:Hid (Pl.rowP s (Pl.pairP s) (s.size+1) a=R)) (L:List (ByteArray × ByteArray)) (HLF:Hid (Pl.rowC s (Pl.pairP s) (Pl.pairC s) (s.size+1) a=L)) :
  Calls Tryz.prog 286 #[.pointer (some ⟨rb,0,none⟩),.int .u8 44,.func (.func 186) #[.pointer (some ⟨rb,0,none⟩)] #[]] w fun e w'=>∃ p n c,e=.returned (.tuple #[.slice p n c,.bool R.1])∧Rd rb s R.2 w'∧w.grownBy w' (some rb)∧Hid (R.1=true→w'.ownsRow w.heap.size 357 2 (.slice p n c) L.length (L.flatMap penc)):=by
 obtain ⟨o,d⟩:=R
 obtain ⟨i0,hi,hz0,hz1,hz2⟩:=info_parts info95
 have hrb:=h.lt
 go_enter Tryz.func286,Tryz.ntmps286
 go_wp2
 go_loopw [8,9,10] (fun l _ _ wr=>∃ (b m n:Nat) (xs:List Value),Hid (∃ K:List (ByteArray × ByteArray),xs=K.flatMap penc∧n=K.length∧K++Pl.rowC s (Pl.pairP s) (Pl.pairC s) m b=L)∧b≤s.size∧s.size<b+m∧Hid (Pl.rowP s (Pl.pairP s) m b=(o,d))∧n≤b∧wr.ownsRow w.heap.size 357 2 l n (xs:List Value)∧Rd rb s b wr∧w.grownBy wr (some rb)) (fun _ _ _ wr=>200 - plc rb wr)
 case atStart=>exact ⟨a,s.size+1,0,[],⟨[],rfl,rfl,HLF.out⟩,ha,by omega,HR,by omega,World.ownsRow_nil _ _ _ _,h,World.grownBy.refl _ _⟩
 case round =>
  obtain ⟨b,m,n,xs,HK,hb,hbm,HL,hxl,hrow,hr,hg⟩:=hrel
  obtain ⟨m,rfl⟩:∃ m',m=m'+1:=⟨m - 1,by omega⟩
  have hwf:=Pl.pair_fits s b hb
  have hwd:=fun w1 h=>pair_any rb s b w1 hm hb h
  obtain ⟨⟨o1,c⟩,hw⟩:∃ r,Pl.pairP s b=r:=⟨_,rfl⟩
  rw [hw] at hwf hwd
  have HWD:Hid (∀ w1,Rd rb s b w1→Calls Tryz.prog 186 #[.pointer (some ⟨rb,0,none⟩)] w1 fun e w'=>∃ t u,e=.returned (.tuple #[.agg #[.string t,.string u],.bool o1])∧Rd rb s c w'∧w1.grownBy w' (some rb)∧Hid (o1=true→(t,u)=Pl.pairC s b)):=hwd
  clear hwd
  have hl:=HL.out
  unfold Pl.rowP at hl
  rw [hw] at hl
  cases o1 with
  | false =>
   simp only [Pl.thenP,Bool.false_eq_true,if_false,Prod.mk.injEq] at hl
   obtain ⟨rfl,rfl⟩:=hl
   clear hw
   go_wp2_with fail
   refine (HWD.out _ hr).mono ?_
   rintro e w1 ⟨t,u,rfl,hr1,hg1,HT1⟩
   go_wp2
   go_ret2
   exact ⟨_,_,_,rfl,hr1.of_below ((Below.refl _ w1).alloc (Nat.le_refl _) _),grown_alloc (grown_trans hg hg1) _,fun h=>by cases h⟩
  | true =>
   have hbc:=pair_one hb hw
   have hsg:=fun w1 h=>sign_at rb s c 44 44 rfl w1 hm hwf.2 h
   have hsz:=hg.size
   simp only [Pl.thenP,if_true] at hl
   have HW:Hid (Pl.pairP s b=(true,c)):=hw
   clear hw HL
   by_cases h44:Pl.byteIn s 44 44 c=true
   ·rw [if_pos h44] at hl
    have hc44:=(Pl.byteIn_lt h44).1
    simp only [Pl.sign,h44,if_true] at hsg
    have HSG:Hid (∀ w1,Rd rb s c w1→Calls Tryz.prog 124 #[.pointer (some ⟨rb,0,none⟩),.int .u8 44] w1 fun e w'=>e=.returned (.bool true)∧Rd rb s (c+1) w'∧w1.grownBy w' (some rb)):=hsg
    have HL2:Hid (Pl.rowP s (Pl.pairP s) m (c+1)=(o,d)):=hl
    have H44:Hid (Pl.byteIn s 44 44 c=true):=h44
    clear hsg hl h44
    go_wp2_with fail
    refine (HWD.out _ hr).mono ?_
    rintro e w1 ⟨t,u,rfl,hr1,hg1,HT1⟩
    have hrow1:=ownsRow_grown hrow hg1 hrb
    have hs1:=hg1.size
    have HNB:Hid (∀ C,((w1.alloc C).alloc (.cells #[.string t,.string u] 357)).heap[w1.heap.size+1]?=some (.cells #[.string t,.string u] 357 (0,0))):=fun C=>by
     have:=heap_alloc_new (w1.alloc C) (.cells #[.string t,.string u] 357)
     simpa using this
    go_wp2_with (at_builtin;go_must (refine wpList_append_lies _ (by rfl) _ _ 94 (by rfl) w.heap.size 357 i0 (.agg #[.string ⟨#[]⟩,.string ⟨#[]⟩]) 2 32 Tryz.underlying94 hi hz0 hz1 hz2 rfl (by decide) _ n xs (by rfl) ((hrow1.alloc _).alloc _) ⟨w1.heap.size+1,0,none⟩ 1 1 [.string t,.string u] (by rfl) rfl (World.news_of_block (HNB.out _)) (by simp [Value.oneCell']) (by decide) (by unfold maxLen;omega) (by omega) (by simp;omega) (w1.heap.size+1+1) (by simp) ?_);intro g cap w2 hown hgrow hat hlt2)
    have hr2:Rd rb s c w2:=((hr1.of_below ((Below.refl _ w1).alloc (Nat.le_refl _) _)).of_below ((Below.refl _ _).alloc (Nat.le_refl _) _)).grown hgrow (by intro e;have:=(ownBlock_lt hrow1 e).2;omega)
    have hg2:w.grownBy w2 (some rb):=grown_own (grown_alloc (grown_alloc (grown_trans hg hg1) _) _) hgrow (fun g e=>(ownBlock_lt hrow1 e).2)
    refine (HSG.out _ hr2).mono ?_
    rintro e w3 ⟨rfl,hr3,hg3⟩
    go_wp2
    go_roundw
    case rel =>
     refine ⟨c+1,m,n+1,xs++[.string t,.string u],?_,by omega,by omega,HL2,by omega,?_,hr3,grown_trans hg2 hg3⟩
     ·obtain ⟨K,hK,hn,hKL⟩:=HK.out
      refine ⟨K++[(t,u)],by rw [hK];simp [penc],by simp [hn],?_⟩
      rw [← hKL,rowC_more HW.out H44.out,HT1.out (by simp)];simp
     ·exact ownsRow_grown hown hg3 hrb
    case measure=>rw [plc_eq hr3,plc_eq hr];omega
   ·have h44':Pl.byteIn s 44 44 c=false:=eq_false_of_ne_true h44
    rw [if_neg h44] at hl
    simp only [Pl.sign,h44',Bool.false_eq_true,if_false] at hsg
    have HSG:Hid (∀ w1,Rd rb s c w1→Calls Tryz.prog 124 #[.pointer (some ⟨rb,0,none⟩),.int .u8 44] w1 fun e w'=>e=.returned (.bool false)∧Rd rb s c w'∧w1.grownBy w' (some rb)):=hsg
    simp only [Prod.mk.injEq] at hl
    obtain ⟨rfl,rfl⟩:=hl
    have H44:Hid (¬ Pl.byteIn s 44 44 c=true):=h44
    clear hsg h44 h44'
    go_wp2_with fail
    refine (HWD.out _ hr).mono ?_
    rintro e w1 ⟨t,u,rfl,hr1,hg1,HT1⟩
    have hrow1:=ownsRow_grown hrow hg1 hrb
    have hs1:=hg1.size
    have HNB:Hid (∀ C,((w1.alloc C).alloc (.cells #[.string t,.string u] 357)).heap[w1.heap.size+1]?=some (.cells #[.string t,.string u] 357 (0,0))):=fun C=>by
     have:=heap_alloc_new (w1.alloc C) (.cells #[.string t,.string u] 357)
     simpa using this
    go_wp2_with (at_builtin;go_must (refine wpList_append_lies _ (by rfl) _ _ 94 (by rfl) w.heap.size 357 i0 (.agg #[.string ⟨#[]⟩,.string ⟨#[]⟩]) 2 32 Tryz.underlying94 hi hz0 hz1 hz2 rfl (by decide) _ n xs (by rfl) ((hrow1.alloc _).alloc _) ⟨w1.heap.size+1,0,none⟩ 1 1 [.string t,.string u] (by rfl) rfl (World.news_of_block (HNB.out _)) (by simp [Value.oneCell']) (by decide) (by unfold maxLen;omega) (by omega) (by simp;omega) (w1.heap.size+1+1) (by simp) ?_);intro g cap w2 hown hgrow hat hlt2)
    have hr2:Rd rb s c w2:=((hr1.of_below ((Below.refl _ w1).alloc (Nat.le_refl _) _)).of_below ((Below.refl _ _).alloc (Nat.le_refl _) _)).grown hgrow (by intro e;have:=(ownBlock_lt hrow1 e).2;omega)
    have hg2:w.grownBy w2 (some rb):=grown_own (grown_alloc (grown_alloc (grown_trans hg hg1) _) _) hgrow (fun g e=>(ownBlock_lt hrow1 e).2)
    refine (HSG.out _ hr2).mono ?_
    rintro e w3 ⟨rfl,hr3,hg3⟩
    go_wp2
    go_ret2
    refine ⟨_,_,_,rfl,hr3,grown_trans hg2 hg3,?_⟩
    obtain ⟨K,hK,hn,hKL⟩:=HK.out
    have hL:xs++[.string t,.string u]=L.flatMap penc:=by rw [← hKL,rowC_last HW.out H44.out,hK,← HT1.out (by simp)];simp [penc]
    have hl2:n+1=L.length:=by rw [← hKL,rowC_last HW.out H44.out,hn];simp
    have:=ownsRow_grown hown hg3 hrb
    rw [hL] at this
    rw [← hl2]
    exact this
set_option maxHeartbeats 1000000 in
theorem pairs_any (rb:Nat) (s:ByteArray) (a:Nat) (w:World) (hm:s.size≤80) (ha:a≤s.size) (h:Rd rb s a w) (R:Bool × Nat) (HR:Hid (Pl.lst s (Pl.pairP s) (s.size+1) a=R)) (L:List (ByteArray × ByteArray)) (HLF:Hid (Pl.rowC s (Pl.pairP s) (Pl.pairC s) (s.size+1) a=L)) :
  Calls Tryz.prog 185 #[.pointer (some ⟨rb,0,none⟩),.func (.func 186) #[.pointer (some ⟨rb,0,none⟩)] #[]] w fun e w'=>∃ p n c,e=.returned (.tuple #[.slice p n c,.bool R.1])∧Rd rb s R.2 w'∧w.grownBy w' (some rb)∧Hid (R.1=true→w'.ownsRow w.heap.size 357 2 (.slice p n c) L.length (L.flatMap penc)):=by
 obtain ⟨o,d⟩:=R
 have hrw:=prow_any rb s a w hm ha h _ (rfl:Pl.rowP s (Pl.pairP s) (s.size+1) a=_) L HLF
 have hrf:=Pl.row_fits s _ (Pl.pair_fits s) (s.size+1) a ha
 have hR:=HR.out
 rw [Pl.lst_row] at hR
 obtain ⟨⟨o1,b⟩,hb⟩:∃ r,Pl.rowP s (Pl.pairP s) (s.size+1) a=r:=⟨_,rfl⟩
 rw [hb] at hrw hrf hR
 have HRW:Hid (Calls Tryz.prog 286 #[.pointer (some ⟨rb,0,none⟩),.int .u8 44,.func (.func 186) #[.pointer (some ⟨rb,0,none⟩)] #[]] w fun e w'=>∃ p n c,e=.returned (.tuple #[.slice p n c,.bool o1])∧Rd rb s b w'∧w.grownBy w' (some rb)∧Hid (o1=true→w'.ownsRow w.heap.size 357 2 (.slice p n c) L.length (L.flatMap penc))):=hrw
 have hrb:=h.lt
 clear hrw hb HR
 cases o1 with
 | false =>
  simp only [Pl.thenP,Bool.false_eq_true,if_false,Prod.mk.injEq] at hR
  obtain ⟨rfl,rfl⟩:=hR
  go_enter Tryz.func185,Tryz.ntmps185
  go_wp2_with fail
  refine HRW.out.mono ?_
  rintro e w1 ⟨p,n,c,rfl,hr1,hg1,HRO⟩
  go_wp2
  go_ret2
  exact ⟨_,_,_,rfl,hr1,hg1,fun h=>by cases h⟩
 | true =>
  simp only [Pl.thenP,if_true] at hR
  have hs4:=fun w1 h=>sign_at rb s b 41 41 rfl w1 hm hrf.2 h
  rw [hR] at hs4
  have HS4:Hid (∀ w1,Rd rb s b w1→Calls Tryz.prog 124 #[.pointer (some ⟨rb,0,none⟩),.int .u8 41] w1 fun e w'=>e=.returned (.bool o)∧Rd rb s d w'∧w1.grownBy w' (some rb)):=hs4
  clear hR hs4
  go_enter Tryz.func185,Tryz.ntmps185
  go_wp2_with fail
  refine HRW.out.mono ?_
  rintro e w1 ⟨p,n,c,rfl,hr1,hg1,HRO⟩
  go_wp2_with fail
  refine (HS4.out _ hr1).mono ?_
  rintro e w2 ⟨rfl,hr2,hg2⟩
  go_wp2
  go_ret2
  exact ⟨_,_,_,rfl,hr2,grown_trans hg1 hg2,by first | exact fun _=>ownsRow_grown (HRO.out (by simp)) hg2 hrb | exact ownsRow_grown (HRO.out (by simp)) hg2 hrb⟩
end Go.Proofs.YtcmgclckknpecaaGreatDoor
namespace Go.Proofs.YtcmgclckknpecaaGreatDoor
open Go.RowKit
set_option maxHeartbeats 1000000 in
theorem bounds_any (rb:Nat) (s:ByteArray) (a:Nat) (w:World) (hm:s.size≤80) (ha:a≤s.size) (h:Rd rb s a w) :
  Calls Tryz.prog 189 #[.pointer (some ⟨rb,0,none⟩)] w fun e w'=>∃ x y:Int,e=.returned (.tuple #[.int .i64 x,.int .i64 y,.bool (Pl.bnds s a).1])∧Rd rb s (Pl.bnds s a).2 w'∧w.grownBy w' (some rb)∧Hid ((Pl.bnds s a).1=true→x=((Pl.bndsC s a).1:Int)∧y=((Pl.bndsC s a).2:Int)):=by
 by_cases h1:Pl.byteIn s 49 57 a=true
 ·have hl1:=(Pl.byteIn_lt h1).1
  have HY1:Hid (Pl.byteIn s 49 57 a=true):=h1
  obtain ⟨⟨o2,b⟩,hs2⟩:∃ r,Pl.sign s 44 (a+1)=r:=⟨_,rfl⟩
  have hsf:=Pl.sign_fits s 44 (a+1) (by omega)
  rw [hs2] at hsf
  have hsg:=fun w1 h=>sign_at rb s (a+1) 44 44 rfl w1 hm (by omega) h
  rw [hs2] at hsg
  have HSG:Hid (∀ w1,Rd rb s (a+1) w1→Calls Tryz.prog 124 #[.pointer (some ⟨rb,0,none⟩),.int .u8 44] w1 fun e w'=>e=.returned (.bool o2)∧Rd rb s b w'∧w1.grownBy w' (some rb)):=hsg
  clear hsg
  cases o2 with
  | false =>
   have hp:Pl.bnds s a=(false,b):=by simp [Pl.bnds,Pl.thenP,h1,hs2]
   rw [hp]
   clear hp hs2 h1
   go_enter Tryz.func189,Tryz.ntmps189
   go_wp2_with fail
   refine (byteWithin_yes rb s a 49 57 _ hm h HY1.out).mono ?_
   rintro e w1 ⟨rfl,hr1,hg1⟩
   go_wp2_with fail
   refine (HSG.out _ hr1).mono ?_
   rintro e w2 ⟨rfl,hr2,hg2⟩
   go_wp2
   go_ret3
   exact ⟨0,0,rfl,hr2,grown_trans hg1 hg2,fun h=>by cases h⟩
  | true =>
   by_cases h3:Pl.byteIn s (Pl.bt s a) 57 b=true
   ·have hl3:=(Pl.byteIn_lt h3).1
    have HY3:Hid (Pl.byteIn s (Pl.bt s a) 57 b=true):=h3
    have HB2:Hid (b=a+2):=by
     have h2:=hs2
     unfold Pl.sign at h2
     show b=_
     split at h2 <;> simp at h2
     omega
    have hp:Pl.bnds s a=Pl.sign s 41 (b+1):=by simp [Pl.bnds,Pl.thenP,h1,hs2,h3]
    have hsg:=fun w1 h=>sign_at rb s (b+1) 41 41 rfl w1 hm (by omega) h
    rw [hp]
    obtain ⟨⟨o4,c⟩,hs4⟩:∃ r,Pl.sign s 41 (b+1)=r:=⟨_,rfl⟩
    rw [hs4] at hsg ⊢
    have HSG4:Hid (∀ w1,Rd rb s (b+1) w1→Calls Tryz.prog 124 #[.pointer (some ⟨rb,0,none⟩),.int .u8 41] w1 fun e w'=>e=.returned (.bool o4)∧Rd rb s c w'∧w1.grownBy w' (some rb)):=hsg
    clear hp hs2 h1 h3 hsg hs4
    go_enter Tryz.func189,Tryz.ntmps189
    go_wp2_with fail
    refine (byteWithin_yes rb s a 49 57 _ hm h HY1.out).mono ?_
    rintro e w1 ⟨rfl,hr1,hg1⟩
    go_wp2_with fail
    refine (HSG.out _ hr1).mono ?_
    rintro e w2 ⟨rfl,hr2,hg2⟩
    go_wp2_with fail
    refine (byteWithin_yes rb s b _ 57 _ hm hr2 HY3.out).mono ?_
    rintro e w3 ⟨rfl,hr3,hg3⟩
    go_wp2_with fail
    refine (HSG4.out _ hr3).mono ?_
    rintro e w4 ⟨rfl,hr4,hg4⟩
    go_wp2
    go_ret3
    refine ⟨_,_,rfl,hr4,grown_trans hg1 (grown_trans hg2 (grown_trans hg3 hg4)),fun _=>?_⟩
    have k1:=Pl.byteIn_lt HY1.out
    have k3:=Pl.byteIn_lt HY3.out
    obtain rfl:=HB2.out
    simp only [Pl.bndsC]
    refine ⟨?_,?_⟩ <;> go_num
   ·have HN3:Hid (Pl.byteIn s (Pl.bt s a) 57 b=false):=eq_false_of_ne_true h3
    have hp:Pl.bnds s a=(false,b):=by simp [Pl.bnds,Pl.thenP,h1,hs2,h3]
    rw [hp]
    clear hp hs2 h1 h3
    go_enter Tryz.func189,Tryz.ntmps189
    go_wp2_with fail
    refine (byteWithin_yes rb s a 49 57 _ hm h HY1.out).mono ?_
    rintro e w1 ⟨rfl,hr1,hg1⟩
    go_wp2_with fail
    refine (HSG.out _ hr1).mono ?_
    rintro e w2 ⟨rfl,hr2,hg2⟩
    go_wp2_with fail
    refine (byteWithin_no rb s b _ 57 _ hm hsf.2 hr2 HN3.out).mono ?_
    rintro e w3 ⟨rfl,hr3,hg3⟩
    go_wp2
    go_ret3
    exact ⟨_,_,rfl,hr3,grown_trans hg1 (grown_trans hg2 hg3),fun h=>by cases h⟩
 ·have HN:Hid (Pl.byteIn s 49 57 a=false):=eq_false_of_ne_true h1
  have hp:Pl.bnds s a=(false,a):=by simp [Pl.bnds,h1]
  rw [hp]
  clear hp h1
  go_enter Tryz.func189,Tryz.ntmps189
  go_wp2_with fail
  refine (byteWithin_no rb s a 49 57 _ hm ha h HN.out).mono ?_
  rintro e w1 ⟨rfl,hr1,hg1⟩
  go_wp2
  go_ret3
  exact ⟨0,0,rfl,hr1,hg1,fun h=>by cases h⟩
end Go.Proofs.YtcmgclckknpecaaGreatDoor
