import Derived.Test.YtcmgclckknpecaaGreatDoorKai
import Derived.Test.YtcmgclckknpecaaGreatDoorKbq
namespace Go.Proofs.YtcmgclckknpecaaGreatDoor
open Go.RowKit Go.Shelf
structure RdI [Inhabited Exb] (B b:Nat) (L:List Fe) (m:Nat) (X:Nat→Prop) (w0:World) (tb rb:Nat) (k:Nat) (W:World):Prop where
 ex:∃ ds Y,Eng B b L m ds X W∧Gl B X Y (900*k) W∧Dok ds∧¬ Y m
 w:Below B w0 W
 s:B≤W.heap.size
 t:Boxed W tb 47 (.pointer (some ⟨b,0,none⟩))
 r:Boxed W rb 4 (.bool false)
 x:∀ k,(default:Exb).p k→k<W.heap.size
structure RdX (B:Nat) (w0:World) (rb:Nat) (W:World):Prop where
 b:Below B w0 W
 s:B≤W.heap.size
 r:Boxed W rb 4 (.bool false)
theorem Eng.mlt [Inhabited Exb] {B b:Nat} {L:List Fe} {m:Nat} {ds:Dl} {X:Nat→Prop} {w:World} (h:Eng B b L m ds X w):∃ es c,w.heap[m]?=some (.map es c):=by
 obtain ⟨D,⟨es,c,q,_⟩,_⟩:=h.d.ex
 exact ⟨es,c,q⟩
theorem RdI.far [Inhabited Exb] {B b:Nat} {L:List Fe} {m:Nat} {X:Nat→Prop} {w0:World} {tb rb k l:Nat} {W W':World} (h:RdI B b L m X w0 tb rb k W) (hg:W.grownBy W' (some l)) (hB:B≤l) (hl:(∃ o,W.heap[l]?=some o∧Bk o)∨∃ c,Boxed W l 9 c∧(default:Exb).p l):RdI B b L m X w0 tb rb k W':=by
 obtain ⟨ds,Y,hE,hG,hD,hYm⟩:=h.ex
 have h0:l≠0:=by have:=hE.p.1;omega
 have hnm:∀ es c,W.heap[l]?≠some (.map es c):=fun es c q=>by
  rcases hl with ⟨o,ho,⟨r,rfl⟩ | ⟨d,rfl⟩⟩ | ⟨v,hb,_⟩
  ·rw [ho] at q;cases q
  ·rw [ho] at q;cases q
  ·rw [show W.heap[l]?=_ from hb] at q;cases q
 have hnc:∀ c t f,t≠9→W.heap[l]?≠some (.cells c t f):=fun c t f ht q=>by
  rcases hl with ⟨o,ho,⟨r,rfl⟩ | ⟨d,rfl⟩⟩ | ⟨v,hb,_⟩
  ·rw [ho] at q;cases q
  ·rw [ho] at q;cases q
  ·rw [show W.heap[l]?=_ from hb] at q;cases q;exact ht rfl
 have hne:∀ (i:Nat) (o:Obj),W.heap[i]?=some o→((∃ es c,o=.map es c)∨∃ c t f,o=.cells c t f∧t≠9)→some i≠some l:=fun i o ho hq e=>by
  injection e with e
  subst e
  rcases hq with ⟨es,c,rfl⟩ | ⟨c,t,f,rfl,ht⟩
  ·exact hnm _ _ ho
  ·exact hnc _ _ _ ht ho
 have hmk:¬ Mk W l:=fun q=>by
  rcases q with ⟨es,c,q⟩ | ⟨c,f,q⟩
  ·exact hnm _ _ q
  ·exact hnc _ _ _ (by decide) q
 have hKd:Kd W W':=by
  rcases hl with ⟨o,ho,hbk⟩ | ⟨v,hb,hp⟩
  ·refine Kd.far hg fun i e=>?_
   injection e with e
   subst e
   refine ⟨h0,fun cs t f _ q=>?_⟩
   rw [ho] at q
   rcases hbk with ⟨r,rfl⟩ | ⟨d,rfl⟩ <;> cases q
  ·exact Kd.box hg h0 hb hp
 have hF:=hE.fok hG
 have hXl:¬ X l:=fun q=>hmk (hF.k l (.inr (.inl q))).2
 have hYl:¬ Y l:=fun q=>hmk (hF.k l (.inr (.inr q))).2
 obtain ⟨es,c,hm⟩:=hE.mlt
 refine ⟨⟨ds,Y,hE.keepd hKd (fun _ q=>q) hE.p.2.2 (hg.block m (Array.getElem?_eq_some_iff.1 hm).1 (hne _ _ hm (.inl ⟨_,_,rfl⟩))) fun f hf=>.inl ?_,hG.far hg hXl hYl fun c f=>hnc c 3 f (by decide),hD,hYm⟩,h.w.grown hg h.s (fun i e=>by injection e with e;omega),Nat.le_trans h.s hg.size,h.t.kept hg (hne _ _ h.t (.inr ⟨_,_,_,rfl,by decide⟩)),h.r.kept hg (hne _ _ h.r (.inr ⟨_,_,_,rfl,by decide⟩)),fun i q=>Nat.lt_of_lt_of_le (h.x i q) hg.size⟩
 obtain ⟨cs,b1,_⟩:=(hE.f f hf).1.blk
 exact hg.block f.1 (Array.getElem?_eq_some_iff.1 b1).1 (hne _ _ b1 (.inr ⟨_,_,_,rfl,by decide⟩))
theorem RdI.below [Inhabited Exb] {B b:Nat} {L:List Fe} {m:Nat} {X:Nat→Prop} {w0:World} {tb rb k:Nat} {W W':World} (h:RdI B b L m X w0 tb rb k W) (hb:Below W.heap.size W W'):RdI B b L m X w0 tb rb k W':=by
 obtain ⟨ds,Y,hE,hG,hD,hYm⟩:=h.ex
 exact ⟨⟨ds,Y,hE.below h.s hb,hG.below hb,hD,hYm⟩,h.w.trans (hb.mono h.s),Nat.le_trans h.s hb.size,(hb.block tb h.t.lt).trans h.t,(hb.block rb h.r.lt).trans h.r,fun i q=>Nat.lt_of_lt_of_le (h.x i q) hb.size⟩
theorem RdI.next [Inhabited Exb] {B b:Nat} {L:List Fe} {m:Nat} {X:Nat→Prop} {w0:World} {tb rb k:Nat} {W W':World} (h:RdI B b L m X w0 tb rb k W) {ds ds':Dl} {Y Y':Nat→Prop} (hE:Eng B b L m ds X W) (hG:Gl B X Y (900*k) W) (hYm:¬ Y m) (hP:PsO B b L m ds' X Y (900*k+900) W W' Y') (hD:Dok ds') :
  RdI B b L m X w0 tb rb (k+1) W'∧(∀ (i:Nat) (o:Obj),W.heap[i]?=some o→(Bk o∨∃ c t f,o=.cells c t f∧t≠3∧t≠175)→W'.heap[i]?=some o):=by
 have hF:=hE.fok hG
 have hK:=hP.a.m.kc h.s hF
 have keep:∀ (i:Nat) (o:Obj),W.heap[i]?=some o→(Bk o∨∃ c t f,o=.cells c t f∧t≠3∧t≠175)→W'.heap[i]?=some o:=fun i o ho hq=>by
  rcases hq with hq | ⟨c,t,f,rfl,h3,h175⟩
  ·have hmk:¬ Mk W i:=fun q=>by
    rcases q with ⟨es,c,q⟩ | ⟨c,f,q⟩ <;> (rw [ho] at q;cases q;rcases hq with ⟨r,e⟩ | ⟨d,e⟩ <;> cases e)
   refine (hP.a.m.block i (Array.getElem?_eq_some_iff.1 ho).1 (fun q=>hmk (hF.k i (.inl q)).2) (fun q=>hmk (hF.k i (.inr (.inl q))).2) (fun q=>hmk (hF.k i (.inr (.inr q))).2) (fun _ c f q=>?_)).trans ho
   rw [ho] at q;cases q;rcases hq with ⟨r,e⟩ | ⟨d,e⟩ <;> cases e
  ·exact hK.c i c t f h3 h175 ho
 obtain ⟨es,c,hm⟩:=hE.mlt
 refine ⟨⟨⟨ds',Y',hP.e,by rw [Nat.mul_add];exact hP.a.g,hD,fun q=>?_⟩,h.w.trans hK.b,Nat.le_trans h.s hK.b.size,keep _ _ h.t (.inr ⟨_,_,_,rfl,by decide,by decide⟩),keep _ _ h.r (.inr ⟨_,_,_,rfl,by decide,by decide⟩),fun i q=>Nat.lt_of_lt_of_le (h.x i q) hK.b.size⟩,keep⟩
 rcases hP.a.t m q with q | q
 ·exact hYm q
 ·have:=(Array.getElem?_eq_some_iff.1 hm).1
  omega
end Go.Proofs.YtcmgclckknpecaaGreatDoor
namespace Go.Proofs.YtcmgclckknpecaaGreatDoor
open Go.RowKit Go.Shelf
attribute [local go_sem] Oper.semAt_some
structure RaO (B b:Nat) (L:List Fe) (m:Nat) (X:Nat→Prop) (w:World) (s:ByteArray) (e:Ending) (w':World):Prop where
 w:Below B w w'
 r:e=.returned (.bool false)∨(e=.returned (.bool true)∧∃ (E:Inhabited Exb) (ds:Dl),@Eng E B b L m ds X w'∧Dok ds∧Pl.sav (L.map (·.2.1)) ds=s)
def Ena (B b:Nat) (L:List Fe) (m:Nat) (X:Nat→Prop) (w:World):Prop:=∀ E:Inhabited Exb,(∀ k,E.default.p k→w.heap.size≤k)→@Eng E B b L m [] X w
theorem str_eq {x s:ByteArray} (h:(x.toList == s.toList)=true):x=s:=by
 have:=eq_of_beq h
 rw [ByteArray.toList_eq,ByteArray.toList_eq] at this
 cases x;cases s
 simpa using this
theorem res60 {tmps:Array Value} {w:World} {rb:Nat} {v:Value} (h:tmps.getD 4 undef=.pointer (some ⟨rb,0,none⟩)) (hc:w.cell? ⟨rb,0,none⟩=some v):(results Tryz.f60 tmps).run Tryz.prog w=.ok v w:=by
 have h':tmps[4]?.getD undef=.pointer (some ⟨rb,0,none⟩):=by simpa using h
 simp [results,h',go_sem,hc]
theorem Eng.far' [Inhabited Exb] {B b:Nat} {L:List Fe} {m:Nat} {ds:Dl} {X:Nat→Prop} {W W':World} {l:Nat} (hE:Eng B b L m ds X W) (hg:W.grownBy W' (some l)) (h0:l≠0) {o:Obj} (ho:W.heap[l]?=some o) (hl:Bk o∨∃ c f,o=.cells c 4 f):Eng B b L m ds X W':=by
 have hne:∀ (i:Nat) (q:Obj),W.heap[i]?=some q→((∃ es c,q=.map es c)∨∃ c t f,q=.cells c t f∧t≠4)→some i≠some l:=fun i q hq hk e=>by
  injection e with e
  subst e
  rw [ho] at hq
  cases hq
  rcases hl with (⟨r,rfl⟩ | ⟨d,rfl⟩) | ⟨c,f,rfl⟩ <;> rcases hk with ⟨es,c',e⟩ | ⟨c',t,f',e,ht⟩ <;> cases e
  exact ht rfl
 obtain ⟨es,c,hm⟩:=hE.mlt
 refine hE.keepd (Kd.far hg fun i e=>?_) (fun _ q=>q) hE.p.2.2 (hg.block m (Array.getElem?_eq_some_iff.1 hm).1 (hne _ _ hm (.inl ⟨_,_,rfl⟩))) fun f hf=>.inl ?_
 ·injection e with e
  subst e
  refine ⟨h0,fun cs t f ht q=>?_⟩
  exact hne _ _ q (.inr ⟨_,_,_,rfl,by rintro rfl;simp at ht⟩) rfl
 ·obtain ⟨cs,b1,_⟩:=(hE.f f hf).1.blk
  exact hg.block f.1 (Array.getElem?_eq_some_iff.1 b1).1 (hne _ _ b1 (.inr ⟨_,_,_,rfl,by decide⟩))
set_option maxRecDepth 100000 in
set_option maxHeartbeats 8000000 in
theorem eread_any (B b:Nat) (L:List Fe) (m:Nat) (X Y:Nat→Prop) (s:ByteArray) (hsz:s.size≤100000000) (w:World) (hB:B≤w.heap.size) (hEa:Ena B b L m X w) (hG:Gl B X Y 0 w) (hYm:¬ Y m) (hTs:Tbs w) (hnm:∀ f∈L,f.2.1.1.size≤1000) (hTb:∀ w',Below B w w'→Ends w'∧Tbr w'∧Tbs w') :
  Calls Tryz.prog 60 #[.pointer (some ⟨b,0,none⟩),.string s] w fun e w'=>RaO B b L m X w s e w':=by
 refine (callsIn_wide (n:=9)).1 ?_
 refine callsIn_of_wp_marks Tryz.func60 rfl trivial ?_ rfl
 simp only [Tryz.ntmps60,List.size_toArray,List.length_cons,List.length_nil,Nat.reduceAdd,Nat.reduceSub,Array.replicate_succ,Array.replicate_zero,List.push_toArray,List.append_toArray,List.nil_append,List.cons_append]
 obtain ⟨wA,hwA⟩:∃ wA,wA=(w.alloc (.cells #[.pointer (some ⟨b,0,none⟩)] 47)).alloc (.cells #[.bool false] 4):=⟨_,rfl⟩
 have hBA:Below w.heap.size w wA:=by rw [hwA];exact ((Below.refl _ w).alloc (Nat.le_refl _) _).alloc (by simp) _
 have tA:Boxed wA w.heap.size 47 (.pointer (some ⟨b,0,none⟩)):=by rw [hwA];exact (Boxed.new w _ _).alloc _
 have rA:Boxed wA (w.heap.size+1) 4 (.bool false):=by
  rw [hwA]
  have:=Boxed.new (w.alloc (.cells #[.pointer (some ⟨b,0,none⟩)] 47)) 4 (.bool false)
  rwa [World.size_alloc] at this
 have cS:=@save_any ⟨⟨fun _=>False⟩⟩ B b L m [] X wA (@Eng.below ⟨⟨fun _=>False⟩⟩ _ _ _ _ _ _ _ _ (hEa ⟨⟨fun _=>False⟩⟩ fun _ q=>q.elim) hB hBA) ⟨by simp [Dnd],by simp,by simp⟩ (hTs.below hBA) hnm
 rw [hwA] at cS
 gi_wp2_with fail
 refine ⟨trivial,?_⟩
 refine (callsIn_wide.2 cS).mono ?_
 rintro e w1 ⟨rfl,hb1⟩
 rw [← hwA] at hb1
 have hBw:Below w.heap.size w w1:=hBA.trans (hb1.mono hBA.size)
 have t1:Boxed w1 w.heap.size 47 (.pointer (some ⟨b,0,none⟩)):=(hb1.block _ tA.lt).trans tA
 have r1:Boxed w1 (w.heap.size+1) 4 (.bool false):=(hb1.block _ rA.lt).trans rA
 have ct1:=t1.cell
 have cr1:=r1.cell
 have fr1:=r1.frozen
 have HW1:Hid (Below w.heap.size w w1):=hBw
 have HT1:Hid (Boxed w1 w.heap.size 47 (.pointer (some ⟨b,0,none⟩))):=t1
 have HR1:Hid (Boxed w1 (w.heap.size+1) 4 (.bool false)):=r1
 clear cS hwA hBA tA rA hb1 hBw t1 r1
 gi_wp2_with fail
 refine ⟨trivial,?_⟩
 refine (callsIn_wide.2 (cutp_any s _ w1)).mono ?_
 rintro e w2 ⟨⟨t,ok,rfl,ht⟩,rfl⟩
 cases ok
 ·gi_wp2_with fail
  exact ⟨_,res60 rfl (HR1.out.set _).cell,(HW1.out.mono hB).grown (grownBy_setCell' w2 _ _) (Nat.le_trans hB HW1.out.size) (fun k e=>by injection e with e;omega),.inl rfl⟩
 ·gi_wp2_with fail
  refine ⟨trivial,?_⟩
  refine (callsIn_wide.2 (lines_any t _)).mono ?_
  rintro e w3 ⟨rfl,rfl⟩
  gi_wp2_with fail
  obtain ⟨E,hE⟩:∃ E:Inhabited Exb,E=⟨⟨fun k=>k=w2.heap.size⟩⟩:=⟨_,rfl⟩
  have hs2:=HW1.out.size
  have hBL:Below w.heap.size w (w2.alloc (.cells #[.string t] 9)):=HW1.out.alloc hs2 _
  have hEw:@Eng E B b L m [] X w:=hEa E fun k hk=>by rw [hE] at hk;have:k=w2.heap.size:=hk;omega
  have hI0:@RdI E B b L m X w w.heap.size (w.heap.size+1) 0 (w2.alloc (.cells #[.string t] 9)) :=
   ⟨⟨[],Y,@Eng.below E _ _ _ _ _ _ _ _ hEw hB hBL,hG.below hBL,⟨by simp [Dnd],by simp,by simp⟩,hYm⟩,hBL.mono hB,by simp;omega,HT1.out.alloc _,HR1.out.alloc _,fun k hk=>by rw [hE] at hk;have:k=w2.heap.size:=hk;simp;omega⟩
  have hp2:E.default.p w2.heap.size:=by rw [hE];exact rfl
  refine wpIn_range_lines (by omega) w2.heap.size 100000000 (by omega) rfl rfl t (by omega) (Boxed.new w2 9 (.string t)) (@RdI E B b L m X w w.heap.size (w.heap.size+1)) (RdX B w (w.heap.size+1))
   (fun k A h=>@RdI.below E _ _ _ _ _ _ _ _ _ _ _ h (Below.refl _ A).drew)
   (fun k A c v h hb=>@RdI.far E _ _ _ _ _ _ _ _ _ _ _ _ h (grownBy_setCell' A _ v) (by omega) (.inr ⟨c,hb,hp2⟩))
   (fun k A o h=>@RdI.below E _ _ _ _ _ _ _ _ _ _ _ h ((Below.refl _ A).alloc (Nat.le_refl _) _))
   (fun k A l o o' h hl ho hb=>@RdI.far E _ _ _ _ _ _ _ _ _ _ _ _ h (grownBy_putObj' A l o') (by simp at hl;omega) (.inl ⟨o,ho,hb⟩))
   (fun A l o o' h hl ho hb=>?_) hI0
   (fun x=>{ tmps:=#[.pointer (some ⟨b,0,none⟩),.string s,.pointer (some ⟨w.heap.size,0,none⟩),undef,.pointer (some ⟨w.heap.size+1,0,none⟩),.string t,.bool true,.string x,.tuple #[.string t,.bool true],.string s,.pointer (some ⟨b,0,none⟩),.string (Pl.sav (L.map (·.2.1)) []),.tuple #[.string t,.bool true],.string t,.bool true,.bool true,.bool false,.string t,.func (.func 179) #[] #[.pointer (some ⟨w2.heap.size,0,none⟩)],.string x,undef,undef,undef,undef,undef,undef,undef,undef],defers:=[] })
   ?assign ?body ?done ?stop
  ·refine ⟨h.b.grown (grownBy_putObj' A l o') h.s (fun k e=>by injection e with e;simp at hl;omega),Nat.le_trans h.s (grownBy_putObj' A l o').size,h.r.kept (grownBy_putObj' A l o') fun e=>?_⟩
   injection e with e
   subst e
   rw [show A.heap[w.heap.size+1]?=_ from h.r] at ho
   cases ho
   rcases hb with ⟨r,e⟩ | ⟨d,e⟩ <;> cases e
  case assign =>
   intro l x W K h
   gi_wp2
   exact h
  case body =>
   intro l k x r W hI hbx hk hx
   obtain ⟨ds,Y',hEr,hGr,hDr,hYr⟩:=hI.ex
   obtain ⟨q1,q2,q3⟩:=hTb W hI.w
   have cR:=@readDoc_any E B b L m ds X Y' (900*k) x (by omega) W hEr hGr hI.s hYr q1 (by omega) hI.x hDr q2 q3.u
   have ct:=hI.t.cell
   have HI:Hid (@RdI E B b L m X w w.heap.size (w.heap.size+1) k W):=hI
   have HBX:Hid (Boxed W w2.heap.size 9 (.string r)):=hbx
   have HEr:Hid (@Eng E B b L m ds X W):=hEr
   have HGr:Hid (Gl B X Y' (900*k) W):=hGr
   clear hI hbx hEr hGr
   gi_wp2_with fail
   refine ⟨trivial,?_⟩
   refine (CallsIn.inRound l (callsIn_wide.2 cR)).mono ?_
   rintro e w4 ⟨⟨rr,ds',Y2,rfl,hP,hD4⟩⟩
   obtain ⟨hI4,keep⟩:=@RdI.next E _ _ _ _ _ _ _ _ _ _ _ HI.out _ _ _ _ HEr.out HGr.out hYr hP hD4
   have HI4:Hid (@RdI E B b L m X w w.heap.size (w.heap.size+1) (k+1) w4):=hI4
   have HKB:Hid (KeepBk (w2.alloc (.cells #[.string t] 9)).heap.size W w4):=fun i o _ ho hb=>keep i o ho (.inl hb)
   have HBX4:Hid (Boxed w4 w2.heap.size 9 (.string r)):=keep _ _ HBX.out (.inr ⟨_,_,_,rfl,by decide,by decide⟩)
   have cr4:=hI4.r.cell
   have fr4:=hI4.r.frozen
   clear keep hI4 hP hD4 cR
   cases rr
   ·gi_wp2_with fail
    refine ⟨fun i o hi ho hb=>?_,?_⟩
    ·have h4:=HKB.out i o hi ho hb
     refine (Below.heap_setCell _ _ _ _ (fun e=>?_)).trans h4
     simp at hi
     have:i=w.heap.size+1:=e
     rw [this,show w4.heap[w.heap.size+1]?=_ from HI4.out.r] at h4
     cases h4
     rcases hb with ⟨r,e⟩ | ⟨d,e⟩ <;> cases e
    ·have hR4:=HI4.out.r
     exact ⟨HI4.out.w.grown (grownBy_setCell' w4 _ _) HI4.out.s (fun i e=>by injection e with e;omega),Nat.le_trans HI4.out.s (grownBy_setCell' w4 (w.heap.size+1) (.bool false)).size,hR4.set _⟩
   ·gi_wp2_with fail
    exact ⟨HKB.out,HI4.out,HBX4.out⟩
  case done =>
   intro D k W hD hk hI hdf
   obtain ⟨ds,Y',hEr,hGr,hDr,hYr⟩:=hI.ex
   obtain ⟨q1,q2,q3⟩:=hTb W hI.w
   have cS:=@save_any E B b L m ds X W hEr hDr q3 hnm
   have ct:=hI.t.cell
   have HI:Hid (@RdI E B b L m X w w.heap.size (w.heap.size+1) k W):=hI
   have HEr:Hid (@Eng E B b L m ds X W):=hEr
   have HDF:Hid (W.heap[D]?=some (.deferred (some []))):=hdf
   clear hI hEr hGr hdf
   gi_wp2_with fail
   refine ⟨trivial,?_⟩
   refine (callsIn_wide.2 cS).mono ?_
   rintro e w5 ⟨rfl,hb5⟩
   have hI5:=@RdI.below E _ _ _ _ _ _ _ _ _ _ _ HI.out hb5
   have HE5:Hid (@Eng E B b L m ds X w5):=@Eng.below E _ _ _ _ _ _ _ _ HEr.out HI.out.s hb5
   have HD5:Hid (w5.heap[D]?=some (.deferred (some []))):=(hb5.block D (Array.getElem?_eq_some_iff.1 HDF.out).1).trans HDF.out
   have cr5:=hI5.r.cell
   have fr5:=hI5.r.frozen
   have HI5:Hid (@RdI E B b L m X w w.heap.size (w.heap.size+1) k w5):=hI5
   obtain ⟨x,hx⟩:∃ x,x=Pl.sav (L.map (·.2.1)) ds:=⟨_,rfl⟩
   have HXS:Hid (x=Pl.sav (L.map (·.2.1)) ds):=hx
   rw [← hx]
   clear hI5 hb5 cS hx
   have fin:∀ v:Bool,(v=true→x=s)→bodyPostM Fence.wide 9 Tryz.prog Tryz.f60 (fun e w'=>RaO B b L m X w s e w') Exit.ret { tmps:=#[.pointer (some ⟨b,0,none⟩),.string s,.pointer (some ⟨w.heap.size,0,none⟩),undef,.pointer (some ⟨w.heap.size+1,0,none⟩),.string t,.bool true,undef,.tuple #[.string t,.bool true],.string s,.pointer (some ⟨b,0,none⟩),.string (Pl.sav (L.map (·.2.1)) []),.tuple #[.string t,.bool true],.string t,.bool true,.bool true,.bool false,.string t,.func (.func 179) #[] #[.pointer (some ⟨w2.heap.size,0,none⟩)],undef,undef,undef,undef,undef,.pointer (some ⟨b,0,none⟩),.string x,.string s,.bool v],defers:=[{ target:=.collected D,args:=#[] }] } (w5.setCell ⟨w.heap.size+1,0,none⟩ (.bool v)):=fun v hv=>by
    have hg1:=grownBy_setCell' w5 (w.heap.size+1) (.bool v)
    have hDn:some D≠some (w.heap.size+1):=fun e=>by
     injection e with e
     have:=HD5.out
     rw [e,show w5.heap[w.heap.size+1]?=_ from HI5.out.r] at this
     cases this
    have hd1:(w5.setCell ⟨w.heap.size+1,0,none⟩ (.bool v)).heap[D]?=some (.deferred (some [])):=(hg1.block D (Array.getElem?_eq_some_iff.1 HD5.out).1 hDn).trans HD5.out
    refine ⟨by simp,.inl ⟨_,_,rfl,run_takeDeferred hd1,?_⟩⟩
    have hr1:Boxed (w5.setCell ⟨w.heap.size+1,0,none⟩ (.bool v)) (w.heap.size+1) 4 (.bool v):=HI5.out.r.set _
    have hg2:=grownBy_putObj' (w5.setCell ⟨w.heap.size+1,0,none⟩ (.bool v)) D (.deferred none)
    have hr2:=hr1.kept hg2 (Ne.symm hDn)
    simp at hD
    have hBf:Below B w ((w5.setCell ⟨w.heap.size+1,0,none⟩ (.bool v)).putObj D (.deferred none)):=(HI5.out.w.grown hg1 HI5.out.s (fun i e=>by injection e with e;omega)).grown hg2 (Nat.le_trans HI5.out.s hg1.size) (fun i e=>by injection e with e;omega)
    have h0:=HE5.out.p.1
    refine ⟨_,res60 rfl hr2.cell,hBf,?_⟩
    cases v
    ·exact .inl rfl
    ·exact .inr ⟨rfl,E,ds,@Eng.far' E _ _ _ _ _ _ _ _ _ (@Eng.far' E _ _ _ _ _ _ _ _ _ HE5.out hg1 (by omega) _ HI5.out.r (.inr ⟨_,_,rfl⟩)) hg2 (by omega) _ hd1 (.inl (.inr ⟨_,rfl⟩)),hDr,by rw [← HXS.out];exact hv rfl⟩
   gi_wp2_with fail
   exact fin _ (fun h=>str_eq h)
  case stop =>
   intro D W hD hX hdf
   have HX:Hid (RdX B w (w.heap.size+1) W):=hX
   have HDF:Hid (W.heap[D]?=some (.deferred (some []))):=hdf
   clear hX hdf
   gi_wp2_with fail
   refine ⟨by simp,.inl ⟨_,_,rfl,run_takeDeferred HDF.out,?_⟩⟩
   have hg2:=grownBy_putObj' W D (.deferred none)
   have hDn:some D≠some (w.heap.size+1):=fun e=>by
    injection e with e
    have:=HDF.out
    rw [e,show W.heap[w.heap.size+1]?=_ from HX.out.r] at this
    cases this
   simp at hD
   exact ⟨_,res60 rfl (HX.out.r.kept hg2 (Ne.symm hDn)).cell,HX.out.b.grown hg2 HX.out.s (fun i e=>by injection e with e;omega),.inl rfl⟩
end Go.Proofs.YtcmgclckknpecaaGreatDoor
