import Derived.Test.YtcmgclckknpecaaGreatDoorKbo
import Derived.Test.YtcmgclckknpecaaGreatDoorKbk
import Derived.Deep.RegionWith
namespace Go.Proofs.YtcmgclckknpecaaGreatDoor
open Go.RowKit Go.Maps Go.Shelf
theorem chain_all (s:ByteArray) (w:World) (cd at_:Nat) (h:Hid (ansOf s=(cd,at_))) (T:List Sp) (HT:Hid (Pl.chC s (s.size+1) false 0=T)) :
  Calls Tryz.prog 35 #[.string s] w fun e w'=>∃ p1 n1 c1 p2 n2 c2 p3 n3 c3 p4 n4 c4,∃ t:ByteArray,∃ x z:Int,e=.returned (.tuple #[.agg #[.slice p1 n1 c1,.string t,.slice p2 n2 c2,.slice p3 n3 c3,.int .i64 x,.int .i64 z,.slice p4 n4 c4],.int .i64 (cd:Int),.int .i64 (at_:Int)])∧Below w.heap.size w w'∧Hid (cd=0→s.size≤80∧PlanO w.heap.size s T (.slice p1 n1 c1) n1 t (.slice p2 n2 c2) (.slice p3 n3 c3) x z (.slice p4 n4 c4) n4 w'∧n1+1+n4≤8):=by
 have h0:=h.out
 unfold ansOf at h0
 by_cases hm:80<s.size
 ·rw [if_pos hm] at h0
  simp only [Prod.mk.injEq] at h0
  obtain ⟨rfl,rfl⟩:=h0
  refine (chain_long s w hm).mono ?_
  rintro e w' ⟨p1,n1,c1,p2,n2,c2,p3,n3,c3,p4,n4,c4,t,x,z,rfl,hB⟩
  exact ⟨p1,n1,c1,p2,n2,c2,p3,n3,c3,p4,n4,c4,t,x,z,rfl,hB,fun h=>absurd h (by decide)⟩
 ·rw [if_neg hm] at h0
  refine (chain_any s w (by omega) _ rfl cd at_ h0 T HT).mono ?_
  rintro e w' ⟨p1,n1,c1,p2,n2,c2,p3,n3,c3,p4,n4,c4,t,x,z,rfl,hB,HP⟩
  exact ⟨p1,n1,c1,p2,n2,c2,p3,n3,c3,p4,n4,c4,t,x,z,rfl,hB,fun h=>⟨by omega,HP.out h⟩⟩
def FAa (b:Nat) (nm ch:ByteArray) (ib:Nat) (T:List Sp) (w:World):Prop:=∀ E:Inhabited Exb,(∀ k,E.default.p k→w.heap.size≤k)→@FA E b nm ch ib T w
theorem FAa.keep {b:Nat} {nm ch:ByteArray} {ib:Nat} {T:List Sp} {w w':World} (h:FAa b nm ch ib T w) (ha:∀ E:Inhabited Exb,@Agr E w w') (hb:∀ k c t f,(t=175∧k=b∨t=189∨t=194)→w.heap[k]?=some (.cells c t f)→w'.heap[k]?=some (.cells c t f)):FAa b nm ch ib T w' :=
 fun E hE=>@FA.keep E _ _ _ _ _ _ _ (h E fun k hk=>Nat.le_trans (ha E).size (hE k hk)) (ha E) hb
theorem FAa.blk {b:Nat} {nm ch:ByteArray} {ib:Nat} {T:List Sp} {w:World} (h:FAa b nm ch ib T w):∃ cs,Blk b 175 cs w∧cs[0]?=some (.string nm)∧cs[1]?=some (.string ch)∧cs[15]?=some (.map (some ib)):=@FA.blk ⟨⟨fun _=>False⟩⟩ _ _ _ _ _ _ (h ⟨⟨fun _=>False⟩⟩ fun _ q=>q.elim)
theorem StsE.of {E:Inhabited Exb} {base:Nat} {es:List Sp} {xs:List Value} {w:World} (h:Sts base es xs w) (hE:∀ k,E.default.p k→w.heap.size≤k):StsE base es xs w:=by
 obtain ⟨L,h1,h2,h3⟩:=h.ex
 exact ⟨L,h1,h2,fun q hq=>.of (h3 q hq) fun g hg hp=>absurd (ownBlock_lt (h3 q hq).r1 hg).1 (by have:=hE g hp;omega)⟩
theorem StO.below {base:Nat} {sp:Sp} {v1 v2:Value} {x z:Int} {A B:World} (h:StO base sp v1 v2 x z A) (hb:Below A.heap.size A B):StO base sp v1 v2 x z B:=⟨ownsRow_below h.r1 hb,ownsRow_below h.r2 hb,h.hx,h.hz⟩
theorem Sts.below {base:Nat} {es:List Sp} {xs:List Value} {w w':World} (h:Sts base es xs w) (hb:Below w.heap.size w w'):Sts base es xs w':=by
 obtain ⟨L,h1,h2,h3⟩:=h.ex
 exact ⟨L,h1,h2,fun q hq=>(h3 q hq).below hb⟩
structure MfO (nm ch:ByteArray) (cd:Nat) (w:World) (e:Ending) (w':World):Prop where
 b:Below w.heap.size w w'
 r:(cd≠0∧e=.returned (.tuple #[.pointer none,.int .i64 (cd:Int)]))∨(cd=0∧∃ fb ib,e=.returned (.tuple #[.pointer (some ⟨fb,0,none⟩),.int .i64 0])∧FAa fb nm ch ib (Pl.chOf (nm,ch)) w'∧w'.ownsMap Tryz.prog 9 mpE ib 0 (.map [])∧w.heap.size≤fb∧w.heap.size≤ib)
def Pl.mfE (pre:List (ByteArray × ByteArray)) (f:ByteArray × ByteArray):Nat:=if (Pl.isNm f.1 && decide (f.1.size≤8) && decide (Pl.fld f.1 pre 0<0))=true then (ansOf f.2).1 else 5
theorem MfO.fresh {nm ch:ByteArray} {w w':World} {fb ib:Nat} {p1 p2 p3 p4:Option Addr} {n1 c1 n2 c2 n3 c3 n4 c4:Nat} {t:ByteArray} {x z:Int} {base:Nat} (hb:Below w.heap.size w w') (hfb:Blk fb 175 #[.string nm,.string ch,.slice p1 n1 c1,.string t,.slice p2 n2 c2,.slice p3 n3 c3,.int .i64 x,.int .i64 z,.slice p4 n4 c4,.int .u32 0,.int .i32 0,.int .u32 0,.slice none 0 0,.nilFunc,.slice none 0 0,.map (some ib)] w') (hib:w'.ownsMap Tryz.prog 9 mpE ib 0 (.map [])) (h1:w.heap.size≤fb) (h2:w.heap.size≤ib) (h0:0<w.heap.size) (hz:ch.size≤80) (hP:PlanO base ch (Pl.chOf (nm,ch)) (.slice p1 n1 c1) n1 t (.slice p2 n2 c2) (.slice p3 n3 c3) x z (.slice p4 n4 c4) n4 w') (hn:n1+1+n4≤8):MfO nm ch 0 w (.returned (.tuple #[.pointer (some ⟨fb,0,none⟩),.int .i64 0])) w':=by
 obtain ⟨es,cu,ls,xs,ys,hT,rfl,rfl,rfl,hE,hC,hL,r1,s1,sC,r4,s4⟩:=hP.ex
 exact ⟨hb,.inr ⟨rfl,fb,ib,rfl,fun E hX=>⟨by omega,es,cu,ls,⟨hT,hE,hC,hL,⟨by omega,by omega⟩,hz⟩,.inl ⟨base,p1,c1,p2,n2,c2,p3,n3,c3,x,z,p4,c4,xs,ys,hfb,r1,.of s1 hX,.of sC fun g hg hp=>absurd (ownBlock_lt sC.r1 hg).1 (by have:=hX g hp;omega),r4,.of s4 hX⟩⟩,hib,h1,h2⟩⟩
theorem PlanO.below {base:Nat} {s:ByteArray} {T:List Sp} {v1:Value} {n1:Nat} {t:ByteArray} {v2 v3:Value} {x z:Int} {v4:Value} {n4:Nat} {w w':World} (h:PlanO base s T v1 n1 t v2 v3 x z v4 n4 w) (hb:Below w.heap.size w w'):PlanO base s T v1 n1 t v2 v3 x z v4 n4 w':=by
 obtain ⟨es,cu,ls,xs,ys,h1,h2,h3,h4,h5,h6,h7,h8,h9,h10,h11,h12⟩:=h.ex
 exact ⟨es,cu,ls,xs,ys,h1,h2,h3,h4,h5,h6,h7,ownsRow_below h8 hb,h9.below hb,h10.below hb,ownsRow_below h11 hb,h12.below hb⟩
theorem wpAnyG_two {P:Program} {md:Region.Mode} {ops:Array Oper} {Q:Exit→Act→World→Prop} {S:World→Prop} {c i j:Nat} {oi oj:Oper} {fuel:Nat} {listed:Array Bool} {a:Act} {w:World} (hi:ops[i]?=some oi) (hj:ops[j]?=some oj)
  (hr:Region.ready md ops listed=[i,j]) (hw:Region.wanted oi (yielded ops a.tmps)=true) (hw2:Region.wanted oj (yielded ops a.tmps)=true)
  (h:oi.wp P a w (fun a' w'=>((listed.setIfInBounds i true).getD c true=false→S w')∧wpAnyG P md ops Q S c fuel (listed.setIfInBounds i true) a' w') Q)
  (h2:oj.wp P a w (fun a' w'=>((listed.setIfInBounds j true).getD c true=false→S w')∧wpAnyG P md ops Q S c fuel (listed.setIfInBounds j true) a' w') Q):wpAnyG P md ops Q S c (fuel+1) listed a w:=by
 refine ⟨fun h0=>(by rw [hr] at h0;cases h0),fun k hk=>?_⟩
 rw [hr] at hk
 rcases List.mem_cons.1 hk with rfl | hk
 ·unfold wpOp
  simp only [hi,hw,if_true]
  exact .inl h
 ·obtain rfl:k=j:=by simpa using hk
  unfold wpOp
  simp only [hj,hw2,if_true]
  exact .inl h2
set_option maxRecDepth 100000 in
set_option maxHeartbeats 4000000 in
theorem makefield_any (b:Nat) (a:Option Addr) (g c:Nat) (fn:List (Nat × ByteArray × ByteArray)) (nm ch:ByteArray) (w:World) (h0:0<w.heap.size) (hb:b<w.heap.size) (c0:w.cell? ⟨b,0,none⟩=some (.slice a fn.length c)) (hF:Fdn g fn w) (ha:0<fn.length→a=some ⟨g,0,none⟩) (hg:0<fn.length→g<w.heap.size) (hl:fn.length≤1000) (hnz:nm.size≤9223372036854775807) (cd:Nat) (HCD:Hid (Pl.mfE (fn.map (·.2)) (nm,ch)=cd)) :
  Calls Tryz.prog 92 #[.pointer (some ⟨b,0,none⟩),.agg #[.string nm,.string ch]] w fun e w'=>MfO nm ch cd w e w':=by
 have hBx:Below w.heap.size w (w.alloc (.cells #[.string nm,.string ch] 74)):=(Below.refl _ _).alloc (Nat.le_refl _) _
 have hxb:=heap_alloc_new w (.cells #[.string nm,.string ch] 74)
 obtain ⟨I,hI⟩:∃ I,Pl.isNm nm=I:=⟨_,rfl⟩
 obtain ⟨R,hR⟩:∃ R,Pl.fld nm (fn.map (·.2)) 0=R:=⟨_,rfl⟩
 have HIN:Hid (∀ W,Calls Tryz.prog 157 #[.string nm] W fun e w'=>e=.returned (.bool I)∧Below W.heap.size W w'):=fun W=>isname_any nm W I hI
 have HNO:Hid (∀ W,Below w.heap.size w W→Calls Tryz.prog 51 #[.pointer (some ⟨b,0,none⟩),.string nm] W fun e w'=>e=.returned (.int .i64 R)∧Below W.heap.size W w'):=fun W hW =>
  numberof_any b a g c fn nm W (Nat.lt_of_lt_of_le hb hW.size) ((hW.cell (p:=⟨b,0,none⟩) hb).trans c0) ⟨fun i hi=>by
   obtain ⟨q1,q2,q3⟩:=hF.c i hi
   exact ⟨(hW.cell (p:=⟨g,i,none⟩) (hg (by omega))).trans q1,(hW.cell (p:=⟨(fn[i]).1,0,none⟩) q3).trans q2,Nat.lt_of_lt_of_le q3 hW.size⟩⟩ ha (fun h=>Nat.lt_of_lt_of_le (hg h) hW.size) hl R hR
 have HBX:Hid (∀ W,Below (w.alloc (.cells #[.string nm,.string ch] 74)).heap.size (w.alloc (.cells #[.string nm,.string ch] 74)) W→W.cell? ⟨w.heap.size,0,none⟩=some (.string nm)∧W.cell? ⟨w.heap.size,1,none⟩=some (.string ch)∧Below w.heap.size w W):=fun W hW=>by
  have q:=(hW.block w.heap.size (by simp)).trans hxb
  exact ⟨by simp [World.cell?,q],by simp [World.cell?,q],hBx.trans (hW.mono (by simp))⟩
 have HCD2:Hid ((if (I && decide (nm.size≤8) && decide (R<0))=true then (ansOf ch).1 else 5)=cd):=by
  have:=HCD.out
  unfold Pl.mfE at this
  simp only [hI,hR] at this
  exact this
 clear hI hR HCD hF ha hg c0 hxb
 cases I with
 | false =>
  have hcd:5=cd:=by have:=HCD2.out;simpa using this
  subst hcd
  go_enter Tryz.func92,Tryz.ntmps92
  go_wp2_with fail
  refine (HIN.out _).mono ?_
  rintro e w1 ⟨rfl,hB1⟩
  have hBw:=(HBX.out _ hB1).2.2
  go_wp2_with fail
  go_ret2
  exact ⟨hBw,.inl ⟨by decide,rfl⟩⟩
 | true =>
  by_cases h8:8<nm.size
  ·have hcd:5=cd:=by have:=HCD2.out;rw [if_neg (by simp;omega)] at this;exact this
   have h8I:(8:Int)<(nm.size:Int):=by omega
   subst hcd
   go_enter Tryz.func92,Tryz.ntmps92
   go_wp2_with fail
   refine (HIN.out _).mono ?_
   rintro e w1 ⟨rfl,hB1⟩
   obtain ⟨x0,x1,hBw⟩:=HBX.out _ hB1
   go_wp2_with fail
   go_ret2
   exact ⟨hBw,.inl ⟨by decide,rfl⟩⟩
  ·have h8I:¬ (8:Int)<(nm.size:Int):=by omega
   by_cases hR0:R<0
   ·obtain ⟨cd',at',hans⟩:∃ cd' at',ansOf ch=(cd',at'):=⟨_,_,rfl⟩
    have hcd:cd'=cd:=by have:=HCD2.out;rw [if_pos (by simp [hR0];omega),hans] at this;exact this
    subst hcd
    have HCH:Hid (∀ W,Calls Tryz.prog 35 #[.string ch] W fun e w'=>∃ p1 n1 c1 p2 n2 c2 p3 n3 c3 p4 n4 c4,∃ t:ByteArray,∃ x z:Int,e=.returned (.tuple #[.agg #[.slice p1 n1 c1,.string t,.slice p2 n2 c2,.slice p3 n3 c3,.int .i64 x,.int .i64 z,.slice p4 n4 c4],.int .i64 (cd':Int),.int .i64 (at':Int)])∧Below W.heap.size W w'∧Hid (cd'=0→ch.size≤80∧PlanO W.heap.size ch (Pl.chOf (nm,ch)) (.slice p1 n1 c1) n1 t (.slice p2 n2 c2) (.slice p3 n3 c3) x z (.slice p4 n4 c4) n4 w'∧n1+1+n4≤8)):=fun W=>chain_all ch W cd' at' hans _ rfl
    clear HCD2 hans
    go_enter Tryz.func92,Tryz.ntmps92
    go_wp2_with fail
    refine (HIN.out _).mono ?_
    rintro e w1 ⟨rfl,hB1⟩
    obtain ⟨x0,x1,hBw⟩:=HBX.out _ hB1
    have hN1:=HNO.out w1 hBw
    have HN1:Hid (Calls Tryz.prog 51 #[.pointer (some ⟨b,0,none⟩),.string nm] w1 fun e w'=>e=.returned (.int .i64 R)∧Below w1.heap.size w1 w'):=hN1
    clear hN1 HNO HIN
    go_wp2_with fail
    refine HN1.out.mono ?_
    rintro e w2 ⟨rfl,hB2⟩
    have hB12:=hB1.trans (hB2.mono hB1.size)
    clear x0 x1 hBw HN1
    obtain ⟨x0,x1,hBw⟩:=HBX.out _ hB12
    go_wp2_with fail
    refine (HCH.out _).mono ?_
    rintro e w3 ⟨p1,n1,c1,p2,n2,c2,p3,n3,c3,p4,n4,c4,t,x,z,rfl,hB3,HP⟩
    have hB13:=hB12.trans (hB3.mono hB12.size)
    clear x0 x1 hBw
    obtain ⟨x0,x1,hBw⟩:=HBX.out _ hB13
    by_cases hc0:cd'=0
    ·obtain ⟨hz80,hPl,hn8⟩:=HP.out hc0
     subst hc0
     have HPL:Hid (PlanO w2.heap.size ch (Pl.chOf (nm,ch)) (.slice p1 n1 c1) n1 t (.slice p2 n2 c2) (.slice p3 n3 c3) x z (.slice p4 n4 c4) n4 w3):=hPl
     have hs3:=hBw.size
     have hCLn:∀ W,Calls Tryz.prog 158 #[.string nm] W fun e w'=>e=.returned (.string nm)∧Below W.heap.size W w':=fun W=>clone_big nm W (by omega)
     have hCLc:∀ W,Calls Tryz.prog 158 #[.string ch] W fun e w'=>e=.returned (.string ch)∧Below W.heap.size W w':=fun W=>clone_big ch W (by omega)
     have HCLn:Hid (∀ W,Calls Tryz.prog 158 #[.string nm] W fun e w'=>e=.returned (.string nm)∧Below W.heap.size W w'):=hCLn
     have HCLc:Hid (∀ W,Calls Tryz.prog 158 #[.string ch] W fun e w'=>e=.returned (.string ch)∧Below W.heap.size W w'):=hCLc
     clear hPl HP HCH hCLn hCLc
     go_wp2_with fail
     obtain ⟨W0,hW0⟩:∃ W0,w3.alloc (.cells #[.slice p1 n1 c1,.string t,.slice p2 n2 c2,.slice p3 n3 c3,.int .i64 x,.int .i64 z,.slice p4 n4 c4] 98)=W0:=⟨_,rfl⟩
     have hB30:Below w3.heap.size w3 W0:=by rw [← hW0];exact (Below.refl _ _).alloc (Nat.le_refl _) _
     have hpb:W0.heap[w3.heap.size]?=some (.cells #[.slice p1 n1 c1,.string t,.slice p2 n2 c2,.slice p3 n3 c3,.int .i64 x,.int .i64 z,.slice p4 n4 c4] 98 (0,0)):=by rw [← hW0];exact heap_alloc_new w3 _
     have hxs:(w.alloc (.cells #[.string nm,.string ch] 74)).heap.size≤w3.heap.size:=hB13.size
     rw [hW0]
     have HJ:Hid (∀ W,Below W0.heap.size W0 W→W.cell? ⟨w.heap.size,0,none⟩=some (.string nm)∧W.cell? ⟨w.heap.size,1,none⟩=some (.string ch)):=fun W hW=>by
      have q:=HBX.out W (hB13.trans ((hB30.trans (hW.mono hB30.size)).mono hB13.size))
      exact ⟨q.1,q.2.1⟩
     have HCn:Hid (∀ W,Below W0.heap.size W0 W→Calls Tryz.prog 158 #[.string nm] W fun e w'=>e=.returned (.string nm)∧Below W0.heap.size W0 w'∧Below W.heap.size W w'):=fun W hW=>(HCLn.out W).mono fun e w' h=>⟨h.1,hW.trans (h.2.mono hW.size),h.2⟩
     have HCc:Hid (∀ W,Below W0.heap.size W0 W→Calls Tryz.prog 158 #[.string ch] W fun e w'=>e=.returned (.string ch)∧Below W0.heap.size W0 w'∧Below W.heap.size W w'):=fun W hW=>(HCLc.out W).mono fun e w' h=>⟨h.1,hW.trans (h.2.mono hW.size),h.2⟩
     have hJ:=Below.refl W0.heap.size W0
     obtain ⟨y0,y1⟩:=HJ.out W0 hJ
     clear hW0 x0 x1 HCLn HCLc HBX hB1 hB2 hB3 hB12
     have hS0:W0.drew.cell? ⟨w.heap.size,0,none⟩=some (.string nm)∧W0.drew.cell? ⟨w.heap.size,1,none⟩=some (.string ch):=HJ.out _ hJ.drew
     refine wp_region_G (S:=fun w'=>w'.cell? ⟨w.heap.size,0,none⟩=some (.string nm)∧w'.cell? ⟨w.heap.size,1,none⟩=some (.string ch)) (c:=8) (by kernel_rfl) ?_
     refine wpAnyG_take 37 (i:=0) (v:=.pointer (some ⟨w.heap.size,0,none⟩)) rfl rfl (by kernel_rfl) (by kernel_rfl) (by kernel_rfl) (by kernel_rfl) (by decide) (by kernel_rfl) (fun _ _ _ h=>h) (Or.inl ⟨by rfl,?_⟩) hS0 ?_
     ·intro w' hw'
      obtain ⟨s0,s1⟩:=hw'
      go_simp
     simp only [List.setIfInBounds_toArray,List.set_cons_zero,List.set_cons_succ]
     refine wpAnyG_take 38 (i:=1) (v:=.string nm) rfl rfl (by kernel_rfl) (by kernel_rfl) (by kernel_rfl) (by kernel_rfl) (by decide) (by kernel_rfl) (fun _ _ _ h=>h) (Or.inl ⟨by rfl,?_⟩) hS0 ?_
     ·intro w' hw'
      obtain ⟨s0,s1⟩:=hw'
      go_simp
     simp only [List.setIfInBounds_toArray,List.set_cons_zero,List.set_cons_succ]
     refine wpAnyG_take 40 (i:=3) (v:=.pointer (some ⟨w.heap.size,1,none⟩)) rfl rfl (by kernel_rfl) (by kernel_rfl) (by kernel_rfl) (by kernel_rfl) (by decide) (by kernel_rfl) (fun _ _ _ h=>h) (Or.inl ⟨by rfl,?_⟩) hS0 ?_
     ·intro w' hw'
      obtain ⟨s0,s1⟩:=hw'
      go_simp
     simp only [List.setIfInBounds_toArray,List.set_cons_zero,List.set_cons_succ]
     refine wpAnyG_take 41 (i:=4) (v:=.string ch) rfl rfl (by kernel_rfl) (by kernel_rfl) (by kernel_rfl) (by kernel_rfl) (by decide) (by kernel_rfl) (fun _ _ _ h=>h) (Or.inl ⟨by rfl,?_⟩) hS0 ?_
     ·intro w' hw'
      obtain ⟨s0,s1⟩:=hw'
      go_simp
     simp only [List.setIfInBounds_toArray,List.set_cons_zero,List.set_cons_succ]
     have HFIN:Hid (∀ W8,Below W0.heap.size W0 W8→MfO nm ch 0 w (.returned (.tuple #[.pointer (some ⟨W8.heap.size+1,0,none⟩),.int .i64 0])) ((W8.alloc (.map #[] 0)).alloc (.cells #[.string nm,.string ch,.slice p1 n1 c1,.string t,.slice p2 n2 c2,.slice p3 n3 c3,.int .i64 x,.int .i64 z,.slice p4 n4 c4,.int .u32 0,.int .i32 0,.int .u32 0,.slice none 0 0,.nilFunc,.slice none 0 0,.map (some W8.heap.size)] 175))):=fun W8 h8=>by
      have hs8:=h8.size
      have hs0:=hB30.size
      have h38:Below w3.heap.size w3 W8:=hB30.trans (h8.mono hB30.size)
      have hBm:Below W8.heap.size W8 (W8.alloc (.map #[] 0)):=(Below.refl _ _).alloc (Nat.le_refl _) _
      have hBf:Below W8.heap.size W8 ((W8.alloc (.map #[] 0)).alloc (.cells #[.string nm,.string ch,.slice p1 n1 c1,.string t,.slice p2 n2 c2,.slice p3 n3 c3,.int .i64 x,.int .i64 z,.slice p4 n4 c4,.int .u32 0,.int .i32 0,.int .u32 0,.slice none 0 0,.nilFunc,.slice none 0 0,.map (some W8.heap.size)] 175)):=hBm.alloc (by simp) _
      have h3f:=h38.trans (hBf.mono (by omega))
      refine MfO.fresh (hBw.trans (h3f.mono hBw.size)) ?_ ((World.ownsMap_made W8 _ _ _).alloc _) (by omega) (by omega) h0 hz80 (HPL.out.below h3f) hn8
      have:=heap_alloc_new (W8.alloc (.map #[] 0)) (.cells #[.string nm,.string ch,.slice p1 n1 c1,.string t,.slice p2 n2 c2,.slice p3 n3 c3,.int .i64 x,.int .i64 z,.slice p4 n4 c4,.int .u32 0,.int .i32 0,.int .u32 0,.slice none 0 0,.nilFunc,.slice none 0 0,.map (some W8.heap.size)] 175)
      rw [World.size_alloc] at this
      exact this
     have HPB:Hid (∀ W,Below W0.heap.size W0 W→W.heap[w3.heap.size]?=some (.cells #[.slice p1 n1 c1,.string t,.slice p2 n2 c2,.slice p3 n3 c3,.int .i64 x,.int .i64 z,.slice p4 n4 c4] 98 (0,0))):=fun W hW=>(hW.block _ (Array.getElem?_eq_some_iff.1 hpb).1).trans hpb
     have hmm:=@run_makeMap Tryz.prog
     have hJ0:=hJ.drew
     clear hpb HPL hB30 hxs hB13 y0 y1 hJ
     refine wpAnyG_two (i:=2) (j:=7) rfl rfl (by kernel_rfl) (by rfl) (by rfl) ?_ ?_
     ·go_simp
      refine (HCn.out _ hJ0).mono ?_
      rintro e wz ⟨rfl,hJz,_⟩
      refine ⟨HJ.out wz hJz,?_⟩
      refine wpAnyG_two (i:=5) (j:=7) rfl rfl (by kernel_rfl) (by rfl) (by rfl) ?_ ?_
      ·go_simp
       refine (HCc.out _ hJz).mono ?_
       rintro e wy ⟨rfl,hJy,_⟩
       refine ⟨HJ.out wy hJy,?_⟩
       refine wpAnyG_take 43 (i:=6) (v:=.agg #[.string nm,.string ch]) rfl rfl (by kernel_rfl) (by kernel_rfl) (by kernel_rfl) (by kernel_rfl) (by decide) (by kernel_rfl) (fun _ _ _ h=>h) (Or.inl ⟨by rfl,?_⟩) (HJ.out wy hJy) ?_
       ·intro w' hw'
        obtain ⟨s0,s1⟩:=hw'
        go_simp
       simp only [List.setIfInBounds_toArray,List.set_cons_zero,List.set_cons_succ]
       refine wpAnyG_one (i:=7) rfl (by kernel_rfl) (by rfl) ?_
       go_simp
       refine ⟨HJ.out _ (hJy.alloc hJy.size _),?_⟩
       refine wpAnyG_one (i:=8) rfl (by kernel_rfl) (by rfl) ?_
       go_simp
       refine wpAnyG_done (by kernel_rfl) ?_ _
       have hJf:Below W0.heap.size W0 (wy.alloc (.cells #[.string nm,.string ch] 74)):=hJy.alloc hJy.size _
       have hpb:=HPB.out _ hJf
       have pc:∀ k v,#[Value.slice p1 n1 c1,.string t,.slice p2 n2 c2,.slice p3 n3 c3,.int .i64 x,.int .i64 z,.slice p4 n4 c4][k]?=some v→(wy.alloc (.cells #[.string nm,.string ch] 74)).cell? ⟨w3.heap.size,k,none⟩=some v:=fun k v h=>(blk_cell (show Blk w3.heap.size 98 _ _ from hpb) k).trans h
       have pc0:=pc 0 _ rfl
       have pc1:=pc 1 _ rfl
       have pc2:=pc 2 _ rfl
       have pc3:=pc 3 _ rfl
       have pc4:=pc 4 _ rfl
       have pc5:=pc 5 _ rfl
       have pc6:=pc 6 _ rfl
       have hfin:=HFIN.out _ hJf
       simp only [World.size_alloc] at hfin
       have HFF:Hid _:=hfin
       clear pc hpb hfin
       go_wp2_with fail
       go_ret2
       exact HFF.out
      ·go_simp
       have hJa:Below W0.heap.size W0 (wz.alloc (.cells #[.string ⟨#[]⟩,.string ⟨#[]⟩] 74)):=hJz.alloc hJz.size _
       have hra:Blk wz.heap.size 74 #[.string ⟨#[]⟩,.string ⟨#[]⟩] (wz.alloc (.cells #[.string ⟨#[]⟩,.string ⟨#[]⟩] 74)):=heap_alloc_new wz _
       have hrW:W0.heap.size≤wz.heap.size:=hJz.size
       refine ⟨HJ.out _ hJa,?_⟩
       refine wpAnyG_one (i:=5) rfl (by kernel_rfl) (by rfl) ?_
       go_simp
       refine (HCc.out _ hJa).mono ?_
       rintro e wy ⟨rfl,hJy,hBy⟩
       have hry:=hra.below hBy
       refine ⟨HJ.out wy hJy,?_⟩
       refine wpAnyG_one (i:=6) rfl (by kernel_rfl) (by rfl) ?_
       go_simp
       refine ⟨HJ.out wy hJy,?_⟩
       refine wpAnyG_one (i:=8) rfl (by kernel_rfl) (by rfl) ?_
       have q0:wy.cell? ⟨wz.heap.size,0,none⟩=some (.string ⟨#[]⟩):=blk_cell hry 0
       have q1:wy.cell? ⟨wz.heap.size,1,none⟩=some (.string ⟨#[]⟩):=blk_cell hry 1
       have q2:=blk_frozen hry 0
       have q3:=blk_frozen hry 1
       go_simp
       refine wpAnyG_done (by kernel_rfl) ?_ _
       have hrf:Blk wz.heap.size 74 #[.string nm,.string ch] ((wy.setCell ⟨wz.heap.size,0,none⟩ (.string nm)).setCell ⟨wz.heap.size,1,none⟩ (.string ch)):=(hry.set 0 (.string nm)).set 1 (.string ch)
       have hJf:Below W0.heap.size W0 ((wy.setCell ⟨wz.heap.size,0,none⟩ (.string nm)).setCell ⟨wz.heap.size,1,none⟩ (.string ch)):=(hJy.setCell (p:=⟨wz.heap.size,0,none⟩) hrW _).setCell (p:=⟨wz.heap.size,1,none⟩) hrW _
       have o0:((wy.setCell ⟨wz.heap.size,0,none⟩ (.string nm)).setCell ⟨wz.heap.size,1,none⟩ (.string ch)).cell? ⟨wz.heap.size,0,none⟩=some (.string nm):=blk_cell hrf 0
       have o1:((wy.setCell ⟨wz.heap.size,0,none⟩ (.string nm)).setCell ⟨wz.heap.size,1,none⟩ (.string ch)).cell? ⟨wz.heap.size,1,none⟩=some (.string ch):=blk_cell hrf 1
       obtain ⟨wf,hwf⟩:∃ wf,(wy.setCell ⟨wz.heap.size,0,none⟩ (.string nm)).setCell ⟨wz.heap.size,1,none⟩ (.string ch)=wf:=⟨_,rfl⟩
       rw [hwf] at hJf o0 o1 ⊢
       clear hwf hrf q0 q1 q2 q3 hry
       have hpb:=HPB.out _ hJf
       have pc:∀ k v,#[Value.slice p1 n1 c1,.string t,.slice p2 n2 c2,.slice p3 n3 c3,.int .i64 x,.int .i64 z,.slice p4 n4 c4][k]?=some v→wf.cell? ⟨w3.heap.size,k,none⟩=some v:=fun k v h=>(blk_cell (show Blk w3.heap.size 98 _ _ from hpb) k).trans h
       have pc0:=pc 0 _ rfl
       have pc1:=pc 1 _ rfl
       have pc2:=pc 2 _ rfl
       have pc3:=pc 3 _ rfl
       have pc4:=pc 4 _ rfl
       have pc5:=pc 5 _ rfl
       have pc6:=pc 6 _ rfl
       have hfin:=HFIN.out _ hJf
       have HFF:Hid _:=hfin
       clear pc hpb hfin
       go_wp2_with fail
       go_ret2
       exact HFF.out
     ·go_simp
      have hJa:Below W0.heap.size W0 (W0.drew.alloc (.cells #[.string ⟨#[]⟩,.string ⟨#[]⟩] 74)):=hJ0.alloc (by simp) _
      have hra:Blk W0.heap.size 74 #[.string ⟨#[]⟩,.string ⟨#[]⟩] (W0.drew.alloc (.cells #[.string ⟨#[]⟩,.string ⟨#[]⟩] 74)):=heap_alloc_new W0.drew _
      have hrW:W0.heap.size≤W0.heap.size:=Nat.le_refl _
      refine ⟨HJ.out (W0.alloc _) ((Below.refl _ _).alloc (Nat.le_refl _) _),?_⟩
      refine wpAnyG_one (i:=2) rfl (by kernel_rfl) (by rfl) ?_
      go_simp
      refine (HCn.out _ hJa).mono ?_
      rintro e wz ⟨rfl,hJz,hBz⟩
      have hrz:=hra.below hBz
      refine ⟨HJ.out wz hJz,?_⟩
      refine wpAnyG_one (i:=5) rfl (by kernel_rfl) (by rfl) ?_
      go_simp
      refine (HCc.out _ hJz).mono ?_
      rintro e wy ⟨rfl,hJy,hBy⟩
      have hry:=hrz.below hBy
      refine ⟨HJ.out wy hJy,?_⟩
      refine wpAnyG_one (i:=6) rfl (by kernel_rfl) (by rfl) ?_
      go_simp
      refine ⟨HJ.out wy hJy,?_⟩
      refine wpAnyG_one (i:=8) rfl (by kernel_rfl) (by rfl) ?_
      have q0:wy.cell? ⟨W0.heap.size,0,none⟩=some (.string ⟨#[]⟩):=blk_cell hry 0
      have q1:wy.cell? ⟨W0.heap.size,1,none⟩=some (.string ⟨#[]⟩):=blk_cell hry 1
      have q2:=blk_frozen hry 0
      have q3:=blk_frozen hry 1
      go_simp
      refine wpAnyG_done (by kernel_rfl) ?_ _
      have hrf:Blk W0.heap.size 74 #[.string nm,.string ch] ((wy.setCell ⟨W0.heap.size,0,none⟩ (.string nm)).setCell ⟨W0.heap.size,1,none⟩ (.string ch)):=(hry.set 0 (.string nm)).set 1 (.string ch)
      have hJf:Below W0.heap.size W0 ((wy.setCell ⟨W0.heap.size,0,none⟩ (.string nm)).setCell ⟨W0.heap.size,1,none⟩ (.string ch)):=(hJy.setCell (p:=⟨W0.heap.size,0,none⟩) hrW _).setCell (p:=⟨W0.heap.size,1,none⟩) hrW _
      have o0:((wy.setCell ⟨W0.heap.size,0,none⟩ (.string nm)).setCell ⟨W0.heap.size,1,none⟩ (.string ch)).cell? ⟨W0.heap.size,0,none⟩=some (.string nm):=blk_cell hrf 0
      have o1:((wy.setCell ⟨W0.heap.size,0,none⟩ (.string nm)).setCell ⟨W0.heap.size,1,none⟩ (.string ch)).cell? ⟨W0.heap.size,1,none⟩=some (.string ch):=blk_cell hrf 1
      obtain ⟨wf,hwf⟩:∃ wf,(wy.setCell ⟨W0.heap.size,0,none⟩ (.string nm)).setCell ⟨W0.heap.size,1,none⟩ (.string ch)=wf:=⟨_,rfl⟩
      rw [hwf] at hJf o0 o1 ⊢
      clear hwf hrf q0 q1 q2 q3 hry
      have hpb:=HPB.out _ hJf
      have pc:∀ k v,#[Value.slice p1 n1 c1,.string t,.slice p2 n2 c2,.slice p3 n3 c3,.int .i64 x,.int .i64 z,.slice p4 n4 c4][k]?=some v→wf.cell? ⟨w3.heap.size,k,none⟩=some v:=fun k v h=>(blk_cell (show Blk w3.heap.size 98 _ _ from hpb) k).trans h
      have pc0:=pc 0 _ rfl
      have pc1:=pc 1 _ rfl
      have pc2:=pc 2 _ rfl
      have pc3:=pc 3 _ rfl
      have pc4:=pc 4 _ rfl
      have pc5:=pc 5 _ rfl
      have pc6:=pc 6 _ rfl
      have hfin:=HFIN.out _ hJf
      have HFF:Hid _:=hfin
      clear pc hpb hfin
      go_wp2_with fail
      go_ret2
      exact HFF.out
    ·have hcI:¬ (cd':Int)=0:=by omega
     have hs3:=hBw.size
     clear HP HCH
     go_wp2_with fail
     go_ret2
     exact ⟨hBw.alloc (by omega) _,.inl ⟨hc0,rfl⟩⟩
   ·have hcd:5=cd:=by have:=HCD2.out;rw [if_neg (by simp;omega)] at this;exact this
    have hR0I:(0:Int)≤R:=by omega
    subst hcd
    go_enter Tryz.func92,Tryz.ntmps92
    go_wp2_with fail
    refine (HIN.out _).mono ?_
    rintro e w1 ⟨rfl,hB1⟩
    obtain ⟨x0,x1,hBw⟩:=HBX.out _ hB1
    have HN1:Hid (Calls Tryz.prog 51 #[.pointer (some ⟨b,0,none⟩),.string nm] w1 fun e w'=>e=.returned (.int .i64 R)∧Below w1.heap.size w1 w'):=HNO.out w1 hBw
    clear HNO HIN
    go_wp2_with fail
    refine HN1.out.mono ?_
    rintro e w2 ⟨rfl,hB2⟩
    have hBw2:=hBw.trans (hB2.mono hBw.size)
    clear x0 x1 hBw HN1
    go_wp2_with fail
    go_ret2
    exact ⟨hBw2,.inl ⟨by decide,rfl⟩⟩
end Go.Proofs.YtcmgclckknpecaaGreatDoor
