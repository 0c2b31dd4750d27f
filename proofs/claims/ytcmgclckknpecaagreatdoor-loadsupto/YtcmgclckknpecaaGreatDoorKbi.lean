import Derived.Test.YtcmgclckknpecaaGreatDoorKbh
import Derived.Test.YtcmgclckknpecaaGreatDoorKba
namespace Go.Proofs.YtcmgclckknpecaaGreatDoor
open Go.RowKit
structure StR (base:Nat) (sp:Sp) (v1 v2:Value) (x z:Int) (w:World):Prop where
 r1:w.ownsRow base 9 1 v1 sp.ws.length (sp.ws.map .string)
 r2:w.ownsRow base 287 2 v2 sp.ps.length (sp.ps.flatMap penc)
 hx:x=(sp.lo:Int)
 hz:z=(sp.hi:Int)
theorem row_keep {w w':World} {base:Nat} {t:TypeId} {sz n:Nat} {v:Value} {xs:List Value} (h:w.ownsRow base t sz v n xs) (hk:∀ g cur,base≤g→w.heap[g]?=some (Obj.cells cur t (0,0))→w'.heap[g]?=some (Obj.cells cur t (0,0))):w'.ownsRow base t sz v n xs:=by
 refine ⟨h.1,?_⟩
 rcases h.2 with h | ⟨g,cap,cur,hv,hg,hh,r⟩
 ·exact .inl h
 ·exact .inr ⟨g,cap,cur,hv,hg,hk g cur hg hh,r⟩
def KqF (base:Nat) (w w':World):Prop:=∀ g cur t,base≤g→(t=9∨t=287)→w.heap[g]?=some (Obj.cells cur t (0,0))→w'.heap[g]?=some (Obj.cells cur t (0,0))
theorem StR.keep {base:Nat} {sp:Sp} {v1 v2:Value} {x z:Int} {w w':World} (h:StR base sp v1 v2 x z w) (hk:KqF base w w'):StR base sp v1 v2 x z w' :=
 ⟨row_keep h.r1 fun g cur hg=>hk g cur 9 hg (.inl rfl),row_keep h.r2 fun g cur hg=>hk g cur 287 hg (.inr rfl),h.hx,h.hz⟩
theorem KqF.grown {w w':World} {pb:Nat} (h:w.grownBy w' (some pb)):KqF (pb+1) w w':=fun g _ _ hg _ e =>
 (h.block g (Array.getElem?_eq_some_iff.1 e).1 (by intro e2;cases e2;omega)).trans e
theorem KqF.below {w w':World} {base:Nat} (h:Below w.heap.size w w'):KqF base w w':=fun g _ _ _ _ e=>(h.block g (Array.getElem?_eq_some_iff.1 e).1).trans e
def Pl.stp (y:ByteArray):ByteArray:=if Pl.bt y (y.size - 1)=40 then y.extract 0 (y.size - 1) else y
def sencR (q:Sq):List Value:=[.string (Pl.stp q.1.nm),q.2.1,q.2.2.1,.int .i64 q.2.2.2.1,.int .i64 q.2.2.2.2]
structure Stq (base:Nat) (Ls:List Sp) (xs:List Value) (w:World):Prop where
 ex:∃ qs:List Sq,xs=qs.flatMap sencR∧qs.map (·.1)=Ls∧∀ q∈qs,StR base q.1 q.2.1 q.2.2.1 q.2.2.2.1 q.2.2.2.2 w
theorem Stq.keep {base:Nat} {Ls:List Sp} {xs:List Value} {w w':World} (h:Stq base Ls xs w) (hk:KqF base w w'):Stq base Ls xs w':=by
 obtain ⟨qs,h1,h2,h3⟩:=h.ex
 exact ⟨qs,h1,h2,fun q hq=>(h3 q hq).keep hk⟩
theorem Stq.nil (base:Nat) (w:World):Stq base [] [] w:=⟨[],rfl,rfl,by simp⟩
structure StgC (o:Bool) (pb:Nat) (sp:Sp) (xs:List Value) (w:World) (xs':List Value) (w':World):Prop where
 h:o=true→∀ Ls,Stq (pb+1) Ls xs w→Stq (pb+1) (Ls++[sp]) xs' w'
theorem stage_keep {pb B0:Nat} {lv:Value} {n:Nat} {xs:List Value} {W1 w3:World} {O:Obj} {v:Value} (hLW:W1.ownsRow B0 207 5 lv n xs) (hgrow:((W1.alloc O).drew).grownBy w3 lv.ownBlock):KqF (pb+1) W1 (w3.setCell ⟨pb,3,none⟩ v):=fun g cur t hg ht e=>by
 have hl:=(Array.getElem?_eq_some_iff.1 e).1
 have e1:((W1.alloc O).drew).heap[g]?=some (Obj.cells cur t (0,0)):=(((Below.refl W1.heap.size W1).alloc (Nat.le_refl _) O).block g hl).trans e
 have e2:w3.heap[g]?=some (Obj.cells cur t (0,0)):=by
  refine (hgrow.block g (Array.getElem?_eq_some_iff.1 e1).1 fun hs=>?_).trans e1
  rcases hLW.2 with ⟨rfl,_⟩ | ⟨g',cap,c2,rfl,_,hh,_⟩
  ·simp [Value.ownBlock] at hs
  ·have:g=g':=by simpa [Value.ownBlock] using hs
   subst this
   rw [e] at hh
   injection hh with hh
   injection hh with _ h2 _
   subst h2
   rcases ht with h | h <;> cases h
 exact ((grown_set w3 pb 3 v).block g (Array.getElem?_eq_some_iff.1 e2).1 (by intro h;cases h;omega)).trans e2
theorem stgC_mk {o:Bool} {pb B0:Nat} {lv:Value} {n:Nat} {xs:List Value} {w W1 w3:World} {O:Obj} {v x0 v1 v2:Value} {sp:Sp} {x z:Int} (hgW:w.grownBy W1 (some pb)) (hLW:W1.ownsRow B0 207 5 lv n xs) (hgrow:((W1.alloc O).drew).grownBy w3 lv.ownBlock) (_hpl:pb<w.heap.size) (hx0:x0=.string (Pl.stp sp.nm)) (hn:o=true→StR (pb+1) sp v1 v2 x z W1) :
  StgC o pb sp xs w (xs++[x0,v1,v2,.int .i64 x,.int .i64 z]) (w3.setCell ⟨pb,3,none⟩ v):=by
 refine ⟨fun ho Ls hQ=>?_⟩
 obtain ⟨qs,h1,h2,h3⟩:=(hQ.keep (KqF.grown hgW)).ex
 have hk:=stage_keep (pb:=pb) (v:=v) hLW hgrow
 refine ⟨qs++[(sp,v1,v2,x,z)],?_,by simp [h2],fun q hq=>?_⟩
 ·rw [List.flatMap_append,← h1,hx0];simp [sencR]
 ·rcases List.mem_append.1 hq with hq | hq
  ·exact (h3 q hq).keep hk
  ·obtain rfl:=List.mem_singleton.1 hq
   exact (hn ho).keep hk
theorem stp_no {y:ByteArray} {m:Nat} (hy:y.size=m+1) (hl:(((y[m]'(by omega)).toNat:Int) == 40)=false):Value.string y=.string (Pl.stp y):=by
 unfold Pl.stp
 rw [show y.size - 1=m by omega,Pl.bt_eq (by omega:m<y.size),if_neg (by simp at hl;omega)]
theorem stp_yes {y:ByteArray} {m:Nat} (hy:y.size=m+1) (hl:(((y[m]'(by omega)).toNat:Int) == 40)=true):Value.string (y.extract 0 m)=.string (Pl.stp y):=by
 unfold Pl.stp
 rw [show y.size - 1=m by omega,Pl.bt_eq (by omega:m<y.size),if_pos (by simp at hl;omega)]
theorem penc_len:∀ ps:List (ByteArray × ByteArray),(ps.flatMap penc).length=ps.length*2
 | []=>rfl
 | p :: r=>by rw [List.flatMap_cons,List.length_append,penc_len r];simp [penc];omega
theorem row_of_xs {w:World} {base base':Nat} {t:TypeId} {sz n k:Nat} {v:Value} {xs ys:List Value} (hb:base'≤base) (h:w.ownsRow base t sz v n xs) (he:xs=ys) (hk:ys.length=k*sz) (hsz:0<sz:=by decide):w.ownsRow base' t sz v k ys:=by
 subst he
 have hn:n=k:=by have:=h.1;rw [hk] at this;exact (Nat.eq_of_mul_eq_mul_right hsz this).symm
 subst hn
 exact ownsRow_low h hb
theorem num_vals {s:ByteArray} {a v1 v2 c1 c2 c3 b:Nat} {o1 o2 o3 o:Bool} (h1:Pl.thenP (true,a) (dig s 1)=(o1,c1)) (h2:Pl.thenP (o1,c1) (Pl.sign s 44)=(o2,c2)) (h3:Pl.thenP (o2,c2) (dig s v1)=(o3,c3)) (h4:Pl.thenP (o3,c3) (Pl.sign s 41)=(o,b)) (ho:o=true) (hv1:o1=true→48+v1=Pl.bt s a) (hv2:o3=true→48+v2=Pl.bt s c2) :
  (v1:Int)=(((Pl.spC s ⟨#[]⟩ 3 a).lo:Nat):Int)∧(v2:Int)=(((Pl.spC s ⟨#[]⟩ 3 a).hi:Nat):Int):=by
 subst ho
 have o3t:o3=true:=by cases o3 with | true=>rfl | false=>simp [Pl.thenP] at h4
 subst o3t
 have o2t:o2=true:=by cases o2 with | true=>rfl | false=>simp [Pl.thenP] at h3
 subst o2t
 have o1t:o1=true:=by cases o1 with | true=>rfl | false=>simp [Pl.thenP] at h2
 subst o1t
 have e1:c1=a+1:=by
  simp only [Pl.thenP,if_true,dig] at h1
  split at h1
  ·exact (Prod.mk.inj h1).2.symm
  ·exact absurd (Prod.mk.inj h1).1 (by simp)
 have e2:c2=c1+1:=by
  simp only [Pl.thenP,if_true,Pl.sign] at h2
  split at h2
  ·exact (Prod.mk.inj h2).2.symm
  ·exact absurd (Prod.mk.inj h2).1 (by simp)
 have a1:=hv1 rfl
 have a2:=hv2 rfl
 rw [e2,e1,show a+1+1=a+2 from rfl] at a2
 simp only [Pl.spC,Pl.bndsC,if_true]
 constructor <;> omega
set_option maxRecDepth 100000 in
set_option maxHeartbeats 1000000 in
theorem stage_k0C (pb B0:Nat) (s:ByteArray) (a:Nat) (y:ByteArray) (m:Nat) (hy:y.size=m+1) (hm8:m≤8) (lv:Value) (n:Nat) (xs:List Value) (w:World) (hBp:B0≤pb) (h:Pn pb s a (-1) lv w) (hL:w.ownsRow B0 207 5 lv n xs) (hLp:lv.ownBlock≠some pb) (hn:n≤80) (hl:((y[m].toNat:Int) == 40)=false) :
  Calls Tryz.prog 72 #[.pointer (some ⟨pb,0,none⟩),.string y] w fun e w'=>e=.returned (.tuple #[])∧∃ lv' xs',Pn pb s a (-1) lv' w'∧w'.ownsRow B0 207 5 lv' (n+1) xs'∧lv'.ownBlock≠some pb∧Below B0 w w'∧StgC true pb (Pl.spC s y 0 a) xs w xs' w':=by
 obtain ⟨i0,hi,hz0,hz1,hz2⟩:=info_parts info85
 have hpl:=h.lt
 go_enter Tryz.func72,Tryz.ntmps72
 go_wp2_with fail
 have hneS:lv.ownBlock≠some w.heap.size:=fun e=>by have:=(ownBlock_lt hL e).1;omega
 have hgW:w.grownBy (w.alloc (.cells #[.string y,.slice none 0 0,.slice none 0 0,.int .i64 0,.int .i64 0] 207)) (some pb):=World.grownBy_alloc _ _ _
 have hpW:Pn pb s a (-1) lv (w.alloc (.cells #[.string y,.slice none 0 0,.slice none 0 0,.int .i64 0,.int .i64 0] 207)):=h.of_below ((Below.refl _ w).alloc (Nat.le_refl _) _)
 have hsW:Sb w.heap.size (.string y) (.slice none 0 0) (.slice none 0 0) (.int .i64 0) (.int .i64 0) (w.alloc (.cells #[.string y,.slice none 0 0,.slice none 0 0,.int .i64 0,.int .i64 0] 207)):=heap_alloc_new w _
 have hLW:=hL.alloc (.cells #[.string y,.slice none 0 0,.slice none 0 0,.int .i64 0,.int .i64 0] 207)
 obtain ⟨W1,hW1⟩:∃ W1,w.alloc (.cells #[.string y,.slice none 0 0,.slice none 0 0,.int .i64 0,.int .i64 0] 207)=W1:=⟨_,rfl⟩
 rw [hW1] at hgW hpW hsW hLW ⊢
 clear hW1
 have t3:=hpW.c3
 have tf:=hpW.fz
 obtain ⟨k0,k1,k2,k3,k4,kf⟩:=hsW.cell
 have hlp:=hpW.lt
 have hls:=hsW.lt
 have hzw:=hgW.size
 have HKS:Hid (∀ o,(W1).frozen? ⟨w.heap.size,o,none⟩=false):=kf
 clear kf
 go_wp2_with fail
 go_region_law
  ((refine step_append_lies _ (by rfl) _ _ _ (by rfl) B0 207 i0 _ 5 80 Tryz.underlying122 hi hz0 hz1 hz2 rfl (by omega) lv n xs (by rfl) ((hLW.alloc _).drew) ⟨(W1).heap.size,0,none⟩ 1 1 [.string y,.slice none 0 0,.slice none 0 0,.int .i64 0,.int .i64 0] (by rfl) (by rfl) (World.news_of_block (cs:=#[.string y,.slice none 0 0,.slice none 0 0,.int .i64 0,.int .i64 0]) (t:=207) (fr:=(0,0)) (heap_alloc_new (W1) _)) (by simp [Value.oneCell']) (by omega) (by unfold maxLen;omega) (by omega) (by simp;omega) ((W1).heap.size+1) (by simp) ?_;intro g cap w3 hown hgrow hat hlt3;have tf3:w3.frozen? ⟨pb,3,none⟩=false:=(hgrow.frozen_far ⟨pb,3,none⟩ (by simp;omega) (Ne.symm hLp)).trans ((((Below.refl (W1).heap.size (W1)).alloc (Nat.le_refl _) _).drew.frozen (p:=⟨pb,3,none⟩) hlp).trans (tf 3));have tc3:w3.cell? ⟨pb,3,none⟩=some lv:=(hgrow.cell_far ⟨pb,3,none⟩ (by simp;omega) (Ne.symm hLp)).trans ((((Below.refl (W1).heap.size (W1)).alloc (Nat.le_refl _) _).drew.cell (p:=⟨pb,3,none⟩) hlp).trans t3)))
 all_goals
  go_wp2
  go_end0
  have hp3:=((hpW.of_below (((Below.refl (W1).heap.size (W1)).alloc (Nat.le_refl _) _).drew)).grown hgrow hLp)
  refine ⟨rfl,_,_,hp3.set3 _,ownsRow_set_other hown (?_:_≠some pb) 3 _,?_,?_,?_⟩
  ·exact own_ne hat hLp (by omega)
  ·exact own_ne hat hLp (by omega)
  ·have hb1:Below B0 w (W1):=below_of_grown hgW hBp (by omega)
   exact (Below.grown ((hb1.alloc (by omega) _).drew) hgrow (by simp;omega) (fun j ej=>(ownBlock_lt hLW ej).2)).setCell (p:=⟨pb,3,none⟩) hBp _
  ·exact stgC_mk hgW hLW hgrow hpl (stp_no hy hl) (fun ho=>⟨World.ownsRow_nil _ _ _ _,World.ownsRow_nil _ _ _ _,rfl,rfl⟩)
set_option maxRecDepth 100000 in
set_option maxHeartbeats 1000000 in
theorem stage_mapC (pb B0:Nat) (s:ByteArray) (a:Nat) (y:ByteArray) (m:Nat) (hy:y.size=m+1) (hm8:m≤8) (lv:Value) (n:Nat) (xs:List Value) (w:World) (hBp:B0≤pb) (h:Pn pb s a (-1) lv w) (hL:w.ownsRow B0 207 5 lv n xs) (hLp:lv.ownBlock≠some pb) (hn:n≤80) (hm:s.size≤80) (ha:a≤s.size) (hl:((y[m].toNat:Int) == 40)=true) (hmap:((y.extract 0 m).toList == [109,97,112])=true) (o:Bool) (b:Nat) (HR:Hid (Pl.lst s (Pl.pairP s) (s.size+1) a=(o,b))) :
  Calls Tryz.prog 72 #[.pointer (some ⟨pb,0,none⟩),.string y] w fun e w'=>e=.returned (.tuple #[])∧∃ lv' xs',Pn pb s b (badOf o b) lv' w'∧w'.ownsRow B0 207 5 lv' (n+1) xs'∧lv'.ownBlock≠some pb∧Below B0 w w'∧StgC o pb (Pl.spC s y 1 a) xs w xs' w':=by
 obtain ⟨i0,hi,hz0,hz1,hz2⟩:=info_parts info85
 have hpl:=h.lt
 go_enter Tryz.func72,Tryz.ntmps72
 go_wp2_with fail
 have hneS:lv.ownBlock≠some w.heap.size:=fun e=>by have:=(ownBlock_lt hL e).1;omega
 have hgA:w.grownBy (w.alloc (.cells #[.string (y.extract 0 m),.slice none 0 0,.slice none 0 0,.int .i64 0,.int .i64 0] 207)) (some pb):=World.grownBy_alloc _ _ _
 have hpA:Pn pb s a (-1) lv (w.alloc (.cells #[.string (y.extract 0 m),.slice none 0 0,.slice none 0 0,.int .i64 0,.int .i64 0] 207)):=h.of_below ((Below.refl _ w).alloc (Nat.le_refl _) _)
 have hsA:Sb w.heap.size (.string (y.extract 0 m)) (.slice none 0 0) (.slice none 0 0) (.int .i64 0) (.int .i64 0) (w.alloc (.cells #[.string (y.extract 0 m),.slice none 0 0,.slice none 0 0,.int .i64 0,.int .i64 0] 207)):=heap_alloc_new w _
 refine (plist_pairsC pb w.heap.size s a lv (.string (y.extract 0 m)) w _ hm ha hgA hpl (Nat.le_refl _) hpA hsA o b HR (Pl.pairsC s a) rfl).mono ?_
 rintro e W1 ⟨rfl,hpW,hgW,p',n',c',hsW,xsP,hrP,hXC⟩
 have hLW:=ownsRow_grown' hL hgW hLp
 clear hgA hpA hsA
 have t3:=hpW.c3
 have tf:=hpW.fz
 obtain ⟨k0,k1,k2,k3,k4,kf⟩:=hsW.cell
 have hlp:=hpW.lt
 have hls:=hsW.lt
 have hzw:=hgW.size
 have HKS:Hid (∀ o,(W1).frozen? ⟨w.heap.size,o,none⟩=false):=kf
 clear kf
 go_wp2_with fail
 go_region_law
  ((refine step_append_lies _ (by rfl) _ _ _ (by rfl) B0 207 i0 _ 5 80 Tryz.underlying122 hi hz0 hz1 hz2 rfl (by omega) lv n xs (by rfl) ((hLW.alloc _).drew) ⟨(W1).heap.size,0,none⟩ 1 1 [.string (y.extract 0 m),.slice none 0 0,.slice p' n' c',.int .i64 0,.int .i64 0] (by rfl) (by rfl) (World.news_of_block (cs:=#[.string (y.extract 0 m),.slice none 0 0,.slice p' n' c',.int .i64 0,.int .i64 0]) (t:=207) (fr:=(0,0)) (heap_alloc_new (W1) _)) (by simp [Value.oneCell']) (by omega) (by unfold maxLen;omega) (by omega) (by simp;omega) ((W1).heap.size+1) (by simp) ?_;intro g cap w3 hown hgrow hat hlt3;have tf3:w3.frozen? ⟨pb,3,none⟩=false:=(hgrow.frozen_far ⟨pb,3,none⟩ (by simp;omega) (Ne.symm hLp)).trans ((((Below.refl (W1).heap.size (W1)).alloc (Nat.le_refl _) _).drew.frozen (p:=⟨pb,3,none⟩) hlp).trans (tf 3));have tc3:w3.cell? ⟨pb,3,none⟩=some lv:=(hgrow.cell_far ⟨pb,3,none⟩ (by simp;omega) (Ne.symm hLp)).trans ((((Below.refl (W1).heap.size (W1)).alloc (Nat.le_refl _) _).drew.cell (p:=⟨pb,3,none⟩) hlp).trans t3)))
 all_goals
  go_wp2
  go_end0
  have hp3:=((hpW.of_below (((Below.refl (W1).heap.size (W1)).alloc (Nat.le_refl _) _).drew)).grown hgrow hLp)
  refine ⟨rfl,_,_,hp3.set3 _,ownsRow_set_other hown (?_:_≠some pb) 3 _,?_,?_,?_⟩
  ·exact own_ne hat hLp (by omega)
  ·exact own_ne hat hLp (by omega)
  ·have hb1:Below B0 w (W1):=below_of_grown hgW hBp (by omega)
   exact (Below.grown ((hb1.alloc (by omega) _).drew) hgrow (by simp;omega) (fun j ej=>(ownBlock_lt hLW ej).2)).setCell (p:=⟨pb,3,none⟩) hBp _
  ·exact stgC_mk hgW hLW hgrow hpl (stp_yes hy hl) (fun ho=>⟨World.ownsRow_nil _ _ _ _,row_of_xs (by omega) hrP (hXC.h ho) (penc_len _),rfl,rfl⟩)
set_option maxRecDepth 100000 in
set_option maxHeartbeats 1000000 in
theorem stage_synC (pb B0:Nat) (s:ByteArray) (a:Nat) (y:ByteArray) (m:Nat) (hy:y.size=m+1) (hm8:m≤8) (lv:Value) (n:Nat) (xs:List Value) (w:World) (hBp:B0≤pb) (h:Pn pb s a (-1) lv w) (hL:w.ownsRow B0 207 5 lv n xs) (hLp:lv.ownBlock≠some pb) (hn:n≤80) (hm:s.size≤80) (ha:a≤s.size) (hl:((y[m].toNat:Int) == 40)=true) (hmap:((y.extract 0 m).toList == [109,97,112])=false) (hsyn:((y.extract 0 m).toList == [115,121,110])=true) (o:Bool) (b:Nat) (HR:Hid (Pl.lst s (Pl.pairP s) (s.size+1) a=(o,b))) :
  Calls Tryz.prog 72 #[.pointer (some ⟨pb,0,none⟩),.string y] w fun e w'=>e=.returned (.tuple #[])∧∃ lv' xs',Pn pb s b (badOf o b) lv' w'∧w'.ownsRow B0 207 5 lv' (n+1) xs'∧lv'.ownBlock≠some pb∧Below B0 w w'∧StgC o pb (Pl.spC s y 1 a) xs w xs' w':=by
 obtain ⟨i0,hi,hz0,hz1,hz2⟩:=info_parts info85
 have hpl:=h.lt
 go_enter Tryz.func72,Tryz.ntmps72
 go_wp2_with fail
 have hneS:lv.ownBlock≠some w.heap.size:=fun e=>by have:=(ownBlock_lt hL e).1;omega
 have hgA:w.grownBy (w.alloc (.cells #[.string (y.extract 0 m),.slice none 0 0,.slice none 0 0,.int .i64 0,.int .i64 0] 207)) (some pb):=World.grownBy_alloc _ _ _
 have hpA:Pn pb s a (-1) lv (w.alloc (.cells #[.string (y.extract 0 m),.slice none 0 0,.slice none 0 0,.int .i64 0,.int .i64 0] 207)):=h.of_below ((Below.refl _ w).alloc (Nat.le_refl _) _)
 have hsA:Sb w.heap.size (.string (y.extract 0 m)) (.slice none 0 0) (.slice none 0 0) (.int .i64 0) (.int .i64 0) (w.alloc (.cells #[.string (y.extract 0 m),.slice none 0 0,.slice none 0 0,.int .i64 0,.int .i64 0] 207)):=heap_alloc_new w _
 refine (plist_pairsC pb w.heap.size s a lv (.string (y.extract 0 m)) w _ hm ha hgA hpl (Nat.le_refl _) hpA hsA o b HR (Pl.pairsC s a) rfl).mono ?_
 rintro e W1 ⟨rfl,hpW,hgW,p',n',c',hsW,xsP,hrP,hXC⟩
 have hLW:=ownsRow_grown' hL hgW hLp
 clear hgA hpA hsA
 have t3:=hpW.c3
 have tf:=hpW.fz
 obtain ⟨k0,k1,k2,k3,k4,kf⟩:=hsW.cell
 have hlp:=hpW.lt
 have hls:=hsW.lt
 have hzw:=hgW.size
 have HKS:Hid (∀ o,(W1).frozen? ⟨w.heap.size,o,none⟩=false):=kf
 clear kf
 go_wp2_with fail
 go_region_law
  ((refine step_append_lies _ (by rfl) _ _ _ (by rfl) B0 207 i0 _ 5 80 Tryz.underlying122 hi hz0 hz1 hz2 rfl (by omega) lv n xs (by rfl) ((hLW.alloc _).drew) ⟨(W1).heap.size,0,none⟩ 1 1 [.string (y.extract 0 m),.slice none 0 0,.slice p' n' c',.int .i64 0,.int .i64 0] (by rfl) (by rfl) (World.news_of_block (cs:=#[.string (y.extract 0 m),.slice none 0 0,.slice p' n' c',.int .i64 0,.int .i64 0]) (t:=207) (fr:=(0,0)) (heap_alloc_new (W1) _)) (by simp [Value.oneCell']) (by omega) (by unfold maxLen;omega) (by omega) (by simp;omega) ((W1).heap.size+1) (by simp) ?_;intro g cap w3 hown hgrow hat hlt3;have tf3:w3.frozen? ⟨pb,3,none⟩=false:=(hgrow.frozen_far ⟨pb,3,none⟩ (by simp;omega) (Ne.symm hLp)).trans ((((Below.refl (W1).heap.size (W1)).alloc (Nat.le_refl _) _).drew.frozen (p:=⟨pb,3,none⟩) hlp).trans (tf 3));have tc3:w3.cell? ⟨pb,3,none⟩=some lv:=(hgrow.cell_far ⟨pb,3,none⟩ (by simp;omega) (Ne.symm hLp)).trans ((((Below.refl (W1).heap.size (W1)).alloc (Nat.le_refl _) _).drew.cell (p:=⟨pb,3,none⟩) hlp).trans t3)))
 all_goals
  go_wp2
  go_end0
  have hp3:=((hpW.of_below (((Below.refl (W1).heap.size (W1)).alloc (Nat.le_refl _) _).drew)).grown hgrow hLp)
  refine ⟨rfl,_,_,hp3.set3 _,ownsRow_set_other hown (?_:_≠some pb) 3 _,?_,?_,?_⟩
  ·exact own_ne hat hLp (by omega)
  ·exact own_ne hat hLp (by omega)
  ·have hb1:Below B0 w (W1):=below_of_grown hgW hBp (by omega)
   exact (Below.grown ((hb1.alloc (by omega) _).drew) hgrow (by simp;omega) (fun j ej=>(ownBlock_lt hLW ej).2)).setCell (p:=⟨pb,3,none⟩) hBp _
  ·exact stgC_mk hgW hLW hgrow hpl (stp_yes hy hl) (fun ho=>⟨World.ownsRow_nil _ _ _ _,row_of_xs (by omega) hrP (hXC.h ho) (penc_len _),rfl,rfl⟩)
set_option maxRecDepth 100000 in
set_option maxHeartbeats 1000000 in
theorem stage_stopC (pb B0:Nat) (s:ByteArray) (a:Nat) (y:ByteArray) (m:Nat) (hy:y.size=m+1) (hm8:m≤8) (lv:Value) (n:Nat) (xs:List Value) (w:World) (hBp:B0≤pb) (h:Pn pb s a (-1) lv w) (hL:w.ownsRow B0 207 5 lv n xs) (hLp:lv.ownBlock≠some pb) (hn:n≤80) (hm:s.size≤80) (ha:a≤s.size) (hl:((y[m].toNat:Int) == 40)=true) (hmap:((y.extract 0 m).toList == [109,97,112])=false) (hsyn:((y.extract 0 m).toList == [115,121,110])=false) (hst:((y.extract 0 m).toList == [115,116,111,112])=true) (o:Bool) (b:Nat) (HR:Hid (Pl.lst s (Pl.word s) (s.size+1) a=(o,b))) :
  Calls Tryz.prog 72 #[.pointer (some ⟨pb,0,none⟩),.string y] w fun e w'=>e=.returned (.tuple #[])∧∃ lv' xs',Pn pb s b (badOf o b) lv' w'∧w'.ownsRow B0 207 5 lv' (n+1) xs'∧lv'.ownBlock≠some pb∧Below B0 w w'∧StgC o pb (Pl.spC s y 2 a) xs w xs' w':=by
 obtain ⟨i0,hi,hz0,hz1,hz2⟩:=info_parts info85
 have hpl:=h.lt
 go_enter Tryz.func72,Tryz.ntmps72
 go_wp2_with fail
 have hneS:lv.ownBlock≠some w.heap.size:=fun e=>by have:=(ownBlock_lt hL e).1;omega
 have hgA:w.grownBy (w.alloc (.cells #[.string (y.extract 0 m),.slice none 0 0,.slice none 0 0,.int .i64 0,.int .i64 0] 207)) (some pb):=World.grownBy_alloc _ _ _
 have hpA:Pn pb s a (-1) lv (w.alloc (.cells #[.string (y.extract 0 m),.slice none 0 0,.slice none 0 0,.int .i64 0,.int .i64 0] 207)):=h.of_below ((Below.refl _ w).alloc (Nat.le_refl _) _)
 have hsA:Sb w.heap.size (.string (y.extract 0 m)) (.slice none 0 0) (.slice none 0 0) (.int .i64 0) (.int .i64 0) (w.alloc (.cells #[.string (y.extract 0 m),.slice none 0 0,.slice none 0 0,.int .i64 0,.int .i64 0] 207)):=heap_alloc_new w _
 refine (plist_wordsC pb w.heap.size s a lv (.string (y.extract 0 m)) w _ hm ha hgA hpl (Nat.le_refl _) hpA hsA o b HR (Pl.wordsC s a) rfl).mono ?_
 rintro e W1 ⟨rfl,hpW,hgW,p',n',c',hsW,xsP,hrP,hXC⟩
 have hLW:=ownsRow_grown' hL hgW hLp
 clear hgA hpA hsA
 have t3:=hpW.c3
 have tf:=hpW.fz
 obtain ⟨k0,k1,k2,k3,k4,kf⟩:=hsW.cell
 have hlp:=hpW.lt
 have hls:=hsW.lt
 have hzw:=hgW.size
 have HKS:Hid (∀ o,(W1).frozen? ⟨w.heap.size,o,none⟩=false):=kf
 clear kf
 go_wp2_with fail
 go_region_law
  ((refine step_append_lies _ (by rfl) _ _ _ (by rfl) B0 207 i0 _ 5 80 Tryz.underlying122 hi hz0 hz1 hz2 rfl (by omega) lv n xs (by rfl) ((hLW.alloc _).drew) ⟨(W1).heap.size,0,none⟩ 1 1 [.string (y.extract 0 m),.slice p' n' c',.slice none 0 0,.int .i64 0,.int .i64 0] (by rfl) (by rfl) (World.news_of_block (cs:=#[.string (y.extract 0 m),.slice p' n' c',.slice none 0 0,.int .i64 0,.int .i64 0]) (t:=207) (fr:=(0,0)) (heap_alloc_new (W1) _)) (by simp [Value.oneCell']) (by omega) (by unfold maxLen;omega) (by omega) (by simp;omega) ((W1).heap.size+1) (by simp) ?_;intro g cap w3 hown hgrow hat hlt3;have tf3:w3.frozen? ⟨pb,3,none⟩=false:=(hgrow.frozen_far ⟨pb,3,none⟩ (by simp;omega) (Ne.symm hLp)).trans ((((Below.refl (W1).heap.size (W1)).alloc (Nat.le_refl _) _).drew.frozen (p:=⟨pb,3,none⟩) hlp).trans (tf 3));have tc3:w3.cell? ⟨pb,3,none⟩=some lv:=(hgrow.cell_far ⟨pb,3,none⟩ (by simp;omega) (Ne.symm hLp)).trans ((((Below.refl (W1).heap.size (W1)).alloc (Nat.le_refl _) _).drew.cell (p:=⟨pb,3,none⟩) hlp).trans t3)))
 all_goals
  go_wp2
  go_end0
  have hp3:=((hpW.of_below (((Below.refl (W1).heap.size (W1)).alloc (Nat.le_refl _) _).drew)).grown hgrow hLp)
  refine ⟨rfl,_,_,hp3.set3 _,ownsRow_set_other hown (?_:_≠some pb) 3 _,?_,?_,?_⟩
  ·exact own_ne hat hLp (by omega)
  ·exact own_ne hat hLp (by omega)
  ·have hb1:Below B0 w (W1):=below_of_grown hgW hBp (by omega)
   exact (Below.grown ((hb1.alloc (by omega) _).drew) hgrow (by simp;omega) (fun j ej=>(ownBlock_lt hLW ej).2)).setCell (p:=⟨pb,3,none⟩) hBp _
  ·exact stgC_mk hgW hLW hgrow hpl (stp_yes hy hl) (fun ho=>⟨row_of_xs (by omega) hrP (hXC.h ho) (by simp),World.ownsRow_nil _ _ _ _,rfl,rfl⟩)
set_option maxRecDepth 100000 in
set_option maxHeartbeats 1000000 in
theorem stage_numC (pb B0:Nat) (s:ByteArray) (a:Nat) (y:ByteArray) (m:Nat) (hy:y.size=m+1) (hm8:m≤8) (lv:Value) (n:Nat) (xs:List Value) (w:World) (hBp:B0≤pb) (h:Pn pb s a (-1) lv w) (hL:w.ownsRow B0 207 5 lv n xs) (hLp:lv.ownBlock≠some pb) (hn:n≤80) (hm:s.size≤80) (ha:a≤s.size) (hl:((y[m].toNat:Int) == 40)=true) (hmap:((y.extract 0 m).toList == [109,97,112])=false) (hsyn:((y.extract 0 m).toList == [115,121,110])=false) (hst:((y.extract 0 m).toList == [115,116,111,112])=false) (o:Bool) (b:Nat) (HR:Hid (Pl.bnds s a=(o,b))) :
  Calls Tryz.prog 72 #[.pointer (some ⟨pb,0,none⟩),.string y] w fun e w'=>e=.returned (.tuple #[])∧∃ lv' xs',Pn pb s b (badOf o b) lv' w'∧w'.ownsRow B0 207 5 lv' (n+1) xs'∧lv'.ownBlock≠some pb∧Below B0 w w'∧StgC o pb (Pl.spC s y 3 a) xs w xs' w':=by
 obtain ⟨i0,hi,hz0,hz1,hz2⟩:=info_parts info85
 have hpl:=h.lt
 go_enter Tryz.func72,Tryz.ntmps72
 go_wp2_with fail
 have hneS:lv.ownBlock≠some w.heap.size:=fun e=>by have:=(ownBlock_lt hL e).1;omega
 have hgA:w.grownBy (w.alloc (.cells #[.string (y.extract 0 m),.slice none 0 0,.slice none 0 0,.int .i64 0,.int .i64 0] 207)) (some pb):=World.grownBy_alloc _ _ _
 have hpA:Pn pb s a (-1) lv (w.alloc (.cells #[.string (y.extract 0 m),.slice none 0 0,.slice none 0 0,.int .i64 0,.int .i64 0] 207)):=h.of_below ((Below.refl _ w).alloc (Nat.le_refl _) _)
 have hsA:Sb w.heap.size (.string (y.extract 0 m)) (.slice none 0 0) (.slice none 0 0) (.int .i64 0) (.int .i64 0) (w.alloc (.cells #[.string (y.extract 0 m),.slice none 0 0,.slice none 0 0,.int .i64 0,.int .i64 0] 207)):=heap_alloc_new w _
 obtain ⟨⟨o1,c1⟩,h1⟩:∃ r,Pl.thenP (true,a) (dig s 1)=r:=⟨_,rfl⟩
 have hf1:=Pl.thenP_fits (r:=(true,a)) ⟨Nat.le_refl _,ha⟩ (dig_fits s 1)
 rw [h1] at hf1
 refine (digit_st pb s true a 1 1 rfl lv _ (by omega) ha hm hpA o1 c1 h1).mono ?_
 rintro e wA ⟨v1,rfl,hv1,hv9,hpB,hgB⟩
 have hsB:=hsA.keep hgB (by simp;omega)
 obtain ⟨a0,a1,a2,a3,a4,af⟩:=hsB.cell
 obtain ⟨⟨o2,c2⟩,h2⟩:∃ r,Pl.thenP (o1,c1) (Pl.sign s 44)=r:=⟨_,rfl⟩
 have hf2:=Pl.thenP_fits (r:=(o1,c1)) hf1 (Pl.sign_fits s 44)
 rw [h2] at hf2
 obtain ⟨⟨o3,c3⟩,h3⟩:∃ r,Pl.thenP (o2,c2) (dig s v1)=r:=⟨_,rfl⟩
 have hf3:=Pl.thenP_fits (r:=(o2,c2)) hf2 (dig_fits s v1)
 rw [h3] at hf3
 have h4:Pl.thenP (o3,c3) (Pl.sign s 41)=(o,b):=by rw [← h3,← h2,bnds_eq s a v1 o1 c1 h1 hv1];exact HR.out
 have H2:Hid (Pl.thenP (o1,c1) (Pl.sign s 44)=(o2,c2)):=h2
 have H3:Hid (Pl.thenP (o2,c2) (dig s v1)=(o3,c3)):=h3
 have H4:Hid (Pl.thenP (o3,c3) (Pl.sign s 41)=(o,b)):=h4
 have hgAB:=grown_trans hgA hgB
 have H1:Hid (Pl.thenP (true,a) (dig s 1)=(o1,c1)):=h1
 have HV1:Hid (o1=true→48+v1=Pl.bt s a):=hv1
 clear h1 h2 h3 h4 hv1 hpA hsA hgA hgB
 go_wp2_with fail
 refine (take_st pb s o1 c1 44 44 rfl lv _ hm hf1.2 (hpB.other (by omega) 3 (.int .i64 (v1:Int))) o2 c2 H2.out).mono ?_
 rintro e wB ⟨rfl,hpC,hgC⟩
 have hsC:=(hsB.set3 (.int .i64 (v1:Int))).keep hgC (by simp;omega)
 have hgD:w.grownBy wB (some pb):=grown_trans (grown_set_new hgAB (Nat.le_refl _) 3 (.int .i64 (v1:Int))) hgC
 clear hsB hpB hgC hgAB a0 a1 a2 a3 a4 af
 obtain ⟨a0,a1,a2,a3,a4,af⟩:=hsC.cell
 go_wp2_with fail
 refine (digit_st pb s o2 c2 v1 _ rfl lv _ hv9 hf2.2 hm hpC o3 c3 H3.out).mono ?_
 rintro e wC ⟨v2,rfl,hv2,_,hpE,hgE⟩
 have HV2:Hid (o3=true→48+v2=Pl.bt s c2):=hv2
 clear hv2
 have hsE:=hsC.keep hgE (by simp;omega)
 clear hsC hpC a0 a1 a2 a3 a4 af
 obtain ⟨a0,a1,a2,a3,a4,af⟩:=hsE.cell
 go_wp2_with fail
 refine (take_st pb s o3 c3 41 41 rfl lv _ hm hf3.2 (hpE.other (by omega) 4 (.int .i64 (v2:Int))) o b H4.out).mono ?_
 rintro e W1 ⟨rfl,hpW,hgF⟩
 have hsW:=(hsE.set4 (.int .i64 (v2:Int))).keep hgF (by simp;omega)
 have hgW:w.grownBy W1 (some pb):=grown_trans (grown_set_new (grown_trans hgD hgE) (Nat.le_refl _) 4 (.int .i64 (v2:Int))) hgF
 clear hsE hpE hgE hgF hgD a0 a1 a2 a3 a4 af
 have hLW:=ownsRow_grown' hL hgW hLp
 have t3:=hpW.c3
 have tf:=hpW.fz
 obtain ⟨k0,k1,k2,k3,k4,kf⟩:=hsW.cell
 have hlp:=hpW.lt
 have hls:=hsW.lt
 have hzw:=hgW.size
 have HKS:Hid (∀ o,(W1).frozen? ⟨w.heap.size,o,none⟩=false):=kf
 clear kf
 go_wp2_with fail
 go_region_law
  ((refine step_append_lies _ (by rfl) _ _ _ (by rfl) B0 207 i0 _ 5 80 Tryz.underlying122 hi hz0 hz1 hz2 rfl (by omega) lv n xs (by rfl) ((hLW.alloc _).drew) ⟨(W1).heap.size,0,none⟩ 1 1 [.string (y.extract 0 m),.slice none 0 0,.slice none 0 0,.int .i64 (v1:Int),.int .i64 (v2:Int)] (by rfl) (by rfl) (World.news_of_block (cs:=#[.string (y.extract 0 m),.slice none 0 0,.slice none 0 0,.int .i64 (v1:Int),.int .i64 (v2:Int)]) (t:=207) (fr:=(0,0)) (heap_alloc_new (W1) _)) (by simp [Value.oneCell']) (by omega) (by unfold maxLen;omega) (by omega) (by simp;omega) ((W1).heap.size+1) (by simp) ?_;intro g cap w3 hown hgrow hat hlt3;have tf3:w3.frozen? ⟨pb,3,none⟩=false:=(hgrow.frozen_far ⟨pb,3,none⟩ (by simp;omega) (Ne.symm hLp)).trans ((((Below.refl (W1).heap.size (W1)).alloc (Nat.le_refl _) _).drew.frozen (p:=⟨pb,3,none⟩) hlp).trans (tf 3));have tc3:w3.cell? ⟨pb,3,none⟩=some lv:=(hgrow.cell_far ⟨pb,3,none⟩ (by simp;omega) (Ne.symm hLp)).trans ((((Below.refl (W1).heap.size (W1)).alloc (Nat.le_refl _) _).drew.cell (p:=⟨pb,3,none⟩) hlp).trans t3)))
 all_goals
  go_wp2
  go_end0
  have hp3:=((hpW.of_below (((Below.refl (W1).heap.size (W1)).alloc (Nat.le_refl _) _).drew)).grown hgrow hLp)
  refine ⟨rfl,_,_,hp3.set3 _,ownsRow_set_other hown (?_:_≠some pb) 3 _,?_,?_,?_⟩
  ·exact own_ne hat hLp (by omega)
  ·exact own_ne hat hLp (by omega)
  ·have hb1:Below B0 w (W1):=below_of_grown hgW hBp (by omega)
   exact (Below.grown ((hb1.alloc (by omega) _).drew) hgrow (by simp;omega) (fun j ej=>(ownBlock_lt hLW ej).2)).setCell (p:=⟨pb,3,none⟩) hBp _
  ·exact stgC_mk hgW hLW hgrow hpl (stp_yes hy hl) (fun ho=>⟨World.ownsRow_nil _ _ _ _,World.ownsRow_nil _ _ _ _,(num_vals H1.out H2.out H3.out H4.out ho HV1.out HV2.out).1,(num_vals H1.out H2.out H3.out H4.out ho HV1.out HV2.out).2⟩)
theorem stage_startC (pb B0:Nat) (s:ByteArray) (a i:Nat) (hi:i<Pl.starts.length) (lv:Value) (n:Nat) (xs:List Value) (w:World) (hBp:B0≤pb) (h:Pn pb s a (-1) lv w) (hL:w.ownsRow B0 207 5 lv n xs) (hLp:lv.ownBlock≠some pb) (hn:n≤80) (hm:s.size≤80) (ha:a≤s.size) (o:Bool) (b:Nat) (HR:Hid (Pl.body s (Pl.kindS i) a=(o,b))) :
  Calls Tryz.prog 72 #[.pointer (some ⟨pb,0,none⟩),.string (Pl.starts[i])] w fun e w'=>e=.returned (.tuple #[])∧∃ lv' xs',Pn pb s b (badOf o b) lv' w'∧w'.ownsRow B0 207 5 lv' (n+1) xs'∧lv'.ownBlock≠some pb∧Below B0 w w'∧StgC o pb (Pl.spC s (Pl.starts[i]) (Pl.kindS i) a) xs w xs' w':=by
 have hi6:i<6:=hi
 obtain rfl | rfl | rfl | rfl | rfl | rfl:i=0∨i=1∨i=2∨i=3∨i=4∨i=5:=by omega
 ·obtain ⟨rfl,rfl⟩:true=o∧a=b:=by simpa [Pl.body,Pl.kindS] using HR.out
  change Calls Tryz.prog 72 #[.pointer (some ⟨pb,0,none⟩),.string (⟨#[116,97,103,115]⟩:ByteArray)] w _
  exact stage_k0C pb B0 s a _ 3 (by decide) (by decide) lv n xs w hBp h hL hLp hn rfl
 ·obtain ⟨rfl,rfl⟩:true=o∧a=b:=by simpa [Pl.body,Pl.kindS] using HR.out
  change Calls Tryz.prog 72 #[.pointer (some ⟨pb,0,none⟩),.string (⟨#[102,111,108,100]⟩:ByteArray)] w _
  exact stage_k0C pb B0 s a _ 3 (by decide) (by decide) lv n xs w hBp h hL hLp hn rfl
 ·have hr:Pl.lst s (Pl.pairP s) (s.size+1) a=(o,b):=by simpa [Pl.body,Pl.kindS] using HR.out
  change Calls Tryz.prog 72 #[.pointer (some ⟨pb,0,none⟩),.string (⟨#[109,97,112,40]⟩:ByteArray)] w _
  exact stage_mapC pb B0 s a _ 3 (by decide) (by decide) lv n xs w hBp h hL hLp hn hm ha rfl (by decide +kernel) o b hr
 ·obtain ⟨rfl,rfl⟩:true=o∧a=b:=by simpa [Pl.body,Pl.kindS] using HR.out
  change Calls Tryz.prog 72 #[.pointer (some ⟨pb,0,none⟩),.string (⟨#[119,111,114,100,115]⟩:ByteArray)] w _
  exact stage_k0C pb B0 s a _ 4 (by decide) (by decide) lv n xs w hBp h hL hLp hn rfl
 ·obtain ⟨rfl,rfl⟩:true=o∧a=b:=by simpa [Pl.body,Pl.kindS] using HR.out
  change Calls Tryz.prog 72 #[.pointer (some ⟨pb,0,none⟩),.string (⟨#[98,108,97,110,107,115]⟩:ByteArray)] w _
  exact stage_k0C pb B0 s a _ 5 (by decide) (by decide) lv n xs w hBp h hL hLp hn rfl
 ·obtain ⟨rfl,rfl⟩:true=o∧a=b:=by simpa [Pl.body,Pl.kindS] using HR.out
  change Calls Tryz.prog 72 #[.pointer (some ⟨pb,0,none⟩),.string (⟨#[119,104,111,108,101]⟩:ByteArray)] w _
  exact stage_k0C pb B0 s a _ 4 (by decide) (by decide) lv n xs w hBp h hL hLp hn rfl
theorem stage_lateC (pb B0:Nat) (s:ByteArray) (a i:Nat) (hi:i<Pl.lates.length) (lv:Value) (n:Nat) (xs:List Value) (w:World) (hBp:B0≤pb) (h:Pn pb s a (-1) lv w) (hL:w.ownsRow B0 207 5 lv n xs) (hLp:lv.ownBlock≠some pb) (hn:n≤80) (hm:s.size≤80) (ha:a≤s.size) (o:Bool) (b:Nat) (HR:Hid (Pl.body s (Pl.kindL i) a=(o,b))) :
  Calls Tryz.prog 72 #[.pointer (some ⟨pb,0,none⟩),.string (Pl.lates[i])] w fun e w'=>e=.returned (.tuple #[])∧∃ lv' xs',Pn pb s b (badOf o b) lv' w'∧w'.ownsRow B0 207 5 lv' (n+1) xs'∧lv'.ownBlock≠some pb∧Below B0 w w'∧StgC o pb (Pl.spC s (Pl.lates[i]) (Pl.kindL i) a) xs w xs' w':=by
 have hi6:i<7:=hi
 obtain rfl | rfl | rfl | rfl | rfl | rfl | rfl:i=0∨i=1∨i=2∨i=3∨i=4∨i=5∨i=6:=by omega
 ·obtain ⟨rfl,rfl⟩:true=o∧a=b:=by simpa [Pl.body,Pl.kindL] using HR.out
  change Calls Tryz.prog 72 #[.pointer (some ⟨pb,0,none⟩),.string (⟨#[108,111,119]⟩:ByteArray)] w _
  exact stage_k0C pb B0 s a _ 2 (by decide) (by decide) lv n xs w hBp h hL hLp hn rfl
 ·obtain ⟨rfl,rfl⟩:true=o∧a=b:=by simpa [Pl.body,Pl.kindL] using HR.out
  change Calls Tryz.prog 72 #[.pointer (some ⟨pb,0,none⟩),.string (⟨#[115,116,101,109]⟩:ByteArray)] w _
  exact stage_k0C pb B0 s a _ 3 (by decide) (by decide) lv n xs w hBp h hL hLp hn rfl
 ·have hr:Pl.lst s (Pl.word s) (s.size+1) a=(o,b):=by simpa [Pl.body,Pl.kindL] using HR.out
  change Calls Tryz.prog 72 #[.pointer (some ⟨pb,0,none⟩),.string (⟨#[115,116,111,112,40]⟩:ByteArray)] w _
  exact stage_stopC pb B0 s a _ 4 (by decide) (by decide) lv n xs w hBp h hL hLp hn hm ha rfl (by decide +kernel) (by decide +kernel) (by decide +kernel) o b hr
 ·have hr:Pl.lst s (Pl.pairP s) (s.size+1) a=(o,b):=by simpa [Pl.body,Pl.kindL] using HR.out
  change Calls Tryz.prog 72 #[.pointer (some ⟨pb,0,none⟩),.string (⟨#[115,121,110,40]⟩:ByteArray)] w _
  exact stage_synC pb B0 s a _ 3 (by decide) (by decide) lv n xs w hBp h hL hLp hn hm ha rfl (by decide +kernel) (by decide +kernel) o b hr
 ·have hr:Pl.bnds s a=(o,b):=by simpa [Pl.body,Pl.kindL] using HR.out
  change Calls Tryz.prog 72 #[.pointer (some ⟨pb,0,none⟩),.string (⟨#[108,101,110,40]⟩:ByteArray)] w _
  exact stage_numC pb B0 s a _ 3 (by decide) (by decide) lv n xs w hBp h hL hLp hn hm ha rfl (by decide +kernel) (by decide +kernel) (by decide +kernel) o b hr
 ·have hr:Pl.bnds s a=(o,b):=by simpa [Pl.body,Pl.kindL] using HR.out
  change Calls Tryz.prog 72 #[.pointer (some ⟨pb,0,none⟩),.string (⟨#[103,114,97,109,40]⟩:ByteArray)] w _
  exact stage_numC pb B0 s a _ 4 (by decide) (by decide) lv n xs w hBp h hL hLp hn hm ha rfl (by decide +kernel) (by decide +kernel) (by decide +kernel) o b hr
 ·have hr:Pl.bnds s a=(o,b):=by simpa [Pl.body,Pl.kindL] using HR.out
  change Calls Tryz.prog 72 #[.pointer (some ⟨pb,0,none⟩),.string (⟨#[101,100,103,101,40]⟩:ByteArray)] w _
  exact stage_numC pb B0 s a _ 4 (by decide) (by decide) lv n xs w hBp h hL hLp hn hm ha rfl (by decide +kernel) (by decide +kernel) (by decide +kernel) o b hr
end Go.Proofs.YtcmgclckknpecaaGreatDoor
