import Derived.Test.YtcmgclckknpecaaGreatDoorKar
import Derived.Test.YtcmgclckknpecaaGreatDoorKav
import Derived.Test.YtcmgclckknpecaaGreatDoorKbb
import Derived.Test.YtcmgclckknpecaaGreatDoorKat
import Derived.Test.YtcmgclckknpecaaGreatDoorKau
namespace Go.Proofs.YtcmgclckknpecaaGreatDoor
open Go.RowKit Go.Shelf
attribute [local go_sem] Oper.semAt_some
end Go.Proofs.YtcmgclckknpecaaGreatDoor
namespace Go.Proofs.YtcmgclckknpecaaGreatDoor
open Go.RowKit Go.Shelf
attribute [local go_sem] Oper.semAt_some
end Go.Proofs.YtcmgclckknpecaaGreatDoor
namespace Go.Proofs.YtcmgclckknpecaaGreatDoor
open Go.RowKit Go.Shelf
abbrev Ch3:=List (Nat × Nat × Nat)
def Pl.eaK (i:Nat) (sp:Sp) (xs:Ch3):Ch3:=if i=0 then Pl.tgs xs xs.length 0 else if i=1 then xs.flatMap Pl.fdC else Pl.exs sp.ps xs xs.length 0
structure EOk [Inhabited Exb] (f:Value) (i:Nat) (sp:Sp) (w:World):Prop where
 ex:∃ F lb,f=.func (.func F) #[] lb∧(∀ args w,(callFunc F args).run Tryz.prog w=.ok (.enter F args) w)∧∀ W,Agr w W→∀ (g cap:Nat) (xs:Ch3) (a:Option Addr),Cr g 0 xs W→(0<xs.length→a=some ⟨g,0,none⟩)→(0<xs.length→g<W.heap.size)→xs.length≤cap→xs.length≤268435456 →
  Calls Tryz.prog F (#[.slice a xs.length cap]++lb) W fun e w'=>∃ v,e=.returned v∧w'.ownsRow W.heap.size 38 3 v (Pl.eaK i sp xs).length ((Pl.eaK i sp xs).flatMap enc)∧Below W.heap.size W w'
theorem EOk.agr [Inhabited Exb] {f:Value} {i:Nat} {sp:Sp} {w w2:World} (h:EOk f i sp w) (ha:Agr w w2):EOk f i sp w2:=by
 obtain ⟨F,lb,h1,h2,h3⟩:=h.ex
 exact ⟨F,lb,h1,h2,fun W hW=>h3 W (ha.trans hW)⟩
theorem eok_map [Inhabited Exb] (sp:Sp) (hw:SpW sp) (b base:Nat) (v1 v2:Value) (x z:Int) (nm:ByteArray) (w:World) (hb:Blk b 96 #[.string nm,v1,v2,.int .i64 x,.int .i64 z] w) (hO:StE base sp v1 v2 x z w) :
  EOk (.func (.func 197) #[] #[.pointer (some ⟨b,0,none⟩)]) 2 sp w:=by
 refine ⟨197,#[.pointer (some ⟨b,0,none⟩)],rfl,enters_of Tryz.func197 (by kernel_rfl) rfl,fun W hW g cap xs a hC ha hg hcap hl=>?_⟩
 obtain ⟨ap,capp,gp,rfl,hap,hob,hgp,hP⟩:=pbk_form ((hO.agr hW).r2)
 have c2:=(hb.agr hW).five.2.2.1
 exact mapStage_any b g cap xs a ap gp capp sp.ps W c2 hC ha hg hcap hl hap hgp hP.row (fun p hp=>(hw.pa p hp).1) (fun p hp=>(hw.pa p hp).2.2.2.2) hw.pl
theorem makeEarly_ok [Inhabited Exb] (i:Nat) (hi:i<Pl.starts.length) (hi3:i<3) (sp:Sp) (hnm:sp.nm=Pl.starts[i]) (hw:SpW sp) (base:Nat) (v1 v2:Value) (x z:Int) (w:World) (hO:StE base sp v1 v2 x z w) :
  Calls Tryz.prog 127 #[.agg #[.string sp.nm,v1,v2,.int .i64 x,.int .i64 z]] w fun e w'=>∃ f,e=.returned (.agg #[f])∧EOk f i sp w'∧Below w.heap.size w w':=by
 obtain ⟨p1,c1,rfl,_,_⟩:=row_form hO.r1
 obtain ⟨p2,c2,rfl,_,_⟩:=row_form hO.r2
 rw [hnm]
 obtain rfl | rfl | rfl:i=0∨i=1∨i=2:=by omega
 ·refine (makeEarly_tags p1 p2 _ c1 _ c2 x z w).mono ?_
  rintro e w' ⟨rfl,hB⟩
  exact ⟨_,rfl,⟨195,#[],rfl,enters_of Tryz.func195 (by kernel_rfl) rfl,fun W hW g cap xs a hC ha hg hcap hl=>blankTags_any g cap xs a W hC ha hg hcap hl⟩,hB⟩
 ·refine (makeEarly_fold p1 p2 _ c1 _ c2 x z w).mono ?_
  rintro e w' ⟨rfl,hB⟩
  exact ⟨_,rfl,⟨196,#[],rfl,enters_of Tryz.func196 (by kernel_rfl) rfl,fun W hW g cap xs a hC ha hg hcap hl=>fold_any g cap xs a W hC ha hg hl⟩,hB⟩
 ·refine (makeEarly_map p1 p2 _ c1 _ c2 x z w).mono ?_
  rintro e w' ⟨b,rfl,hb,_,hB⟩
  have hO':=hO.stb (Stb.of_grown (grown_below hB) (fun r e=>by cases e))
  exact ⟨_,rfl,eok_map sp hw b base _ _ x z _ w' hb hO',hB⟩
def Pl.czf (j:Nat) (xs:Ch3):Nat→Nat:=if j=3 then Pl.wsz (Pl.cdx xs) xs.length else if j=4 then Pl.ssz (Pl.cdx xs) xs.length else Pl.lsz (Pl.cdx xs) xs.length
theorem Pl.czf_le (j:Nat) (xs:Ch3) (i:Nat) (h:i<xs.length):i+Pl.czf j xs i≤xs.length:=by
 unfold Pl.czf
 split
 ·exact Pl.wsz_le _ _ i h
 ·split
  ·exact Pl.ssz_le _ _ i h
  ·unfold Pl.lsz;omega
def Pl.pcs (j:Nat) (xs:Ch3):List (Pce xs.length):=Pl.cutS xs.length (Pl.czf j xs) (fun i h=>Pl.czf_le j xs i h) xs.length 0
structure COk (f:Value) (j:Nat) (w:World):Prop where
 ex:∃ bs,f=.func (.func 296) #[] #[.pointer (some ⟨bs,0,none⟩)]∧Boxed w bs 372 (.func (.func (197+j)) #[] #[])
theorem COk.agr [Inhabited Exb] {f:Value} {j:Nat} {w w2:World} (h:COk f j w) (ha:Agr w w2):COk f j w2:=by
 obtain ⟨bs,h1,h2⟩:=h.ex
 exact ⟨bs,h1,ha.block bs _ h2 (.inr ⟨_,_,_,rfl,.inr (.inr (.inr rfl))⟩)⟩
theorem makeCutter_ok [Inhabited Exb] (j:Nat) (hj:j<Pl.starts.length) (hj3:3≤j) (sp:Sp) (hnm:sp.nm=Pl.starts[j]) (base:Nat) (v1 v2:Value) (x z:Int) (w:World) (hO:StE base sp v1 v2 x z w) :
  Calls Tryz.prog 128 #[.agg #[.string sp.nm,v1,v2,.int .i64 x,.int .i64 z]] w fun e w'=>∃ f,e=.returned (.agg #[f])∧COk f j w'∧Below w.heap.size w w':=by
 obtain ⟨p1,c1,rfl,_,_⟩:=row_form hO.r1
 obtain ⟨p2,c2,rfl,_,_⟩:=row_form hO.r2
 have hj6:j<6:=hj
 rw [hnm]
 obtain rfl | rfl | rfl:j=3∨j=4∨j=5:=by omega
 ·refine (makeCutter_words p1 p2 _ c1 _ c2 x z w).mono ?_
  rintro e w' ⟨bs,rfl,hb,_,hB⟩
  exact ⟨_,rfl,⟨bs,rfl,hb⟩,hB⟩
 ·refine (makeCutter_blanks p1 p2 _ c1 _ c2 x z w).mono ?_
  rintro e w' ⟨bs,rfl,hb,_,hB⟩
  exact ⟨_,rfl,⟨bs,rfl,hb⟩,hB⟩
 ·refine (makeCutter_whole p1 p2 _ c1 _ c2 x z w).mono ?_
  rintro e w' ⟨bs,rfl,hb,_,hB⟩
  exact ⟨_,rfl,⟨bs,rfl,hb⟩,hB⟩
theorem cut_ok (j:Nat) (hj:j<6) (hj3:3≤j) (f:Value) (W:World) (hf:COk f j W) (g cap:Nat) (xs:Ch3) (a:Option Addr) (hC:Cr g 0 xs W) (ha:0<xs.length→a=some ⟨g,0,none⟩) (hg:0<xs.length→g<W.heap.size) (hcap:xs.length≤cap) (hl:xs.length≤268435456) (hcd:∀ k,Pl.cdx xs k≤67108863) :
  Calls Tryz.prog 67 #[.slice a xs.length cap,.agg #[f]] W fun e W' =>
   (((Pl.pcs j xs).length≤300∧∃ v,e=.returned (.tuple #[v,.bool true])∧W'.ownsRow W.heap.size 27 4 v (Pl.pcs j xs).length ((Pl.toks xs 0 (Pl.pcs j xs)).flatMap tenc))∨(300<(Pl.pcs j xs).length∧e=.returned (.tuple #[.slice none 0 0,.bool false])))∧Below W.heap.size W W':=by
 obtain ⟨bs,rfl,hb⟩:=hf.ex
 obtain rfl | rfl | rfl:j=3∨j=4∨j=5:=by omega
 ·exact callsIn_wide.1 (cut160_in 200 (enters_of Tryz.func200 (by kernel_rfl) rfl) 3 (by omega) bs g 0 cap xs hl hcap a ha hcd (Pl.czf 3 xs) (fun i h=>Pl.czf_le 3 xs i h) (fun k w h hk=>wordSize_any g 0 cap xs k w h hk hl) (Pl.pcs 3 xs) rfl W hg hb.lt hb.cell hC)
 ·exact callsIn_wide.1 (cut160_in 201 (enters_of Tryz.func201 (by kernel_rfl) rfl) 3 (by omega) bs g 0 cap xs hl hcap a ha hcd (Pl.czf 4 xs) (fun i h=>Pl.czf_le 4 xs i h) (fun k w h hk=>solidSize_any g 0 cap xs k w h hk hl) (Pl.pcs 4 xs) rfl W hg hb.lt hb.cell hC)
 ·exact callsIn_wide.1 (cut160_in 202 (enters_of Tryz.func202 (by kernel_rfl) rfl) 3 (by omega) bs g 0 cap xs hl hcap a ha hcd (Pl.czf 5 xs) (fun i h=>Pl.czf_le 5 xs i h) (fun k w h hk=>wholeSize_any g 0 cap xs k w hk hl) (Pl.pcs 5 xs) rfl W hg hb.lt hb.cell hC)
end Go.Proofs.YtcmgclckknpecaaGreatDoor
namespace Go.Proofs.YtcmgclckknpecaaGreatDoor
namespace Pl
theorem decode_ok (s:ByteArray) (i:Nat):okc (Utf8.decode s i).1:=by
 rw [Lib.decode_at]
 unfold Lib.decodeN okc
 repeat' split
 all_goals (simp only;omega)
theorem rns_ok (s:ByteArray):∀ m pos,∀ c∈rns s m pos,okc c
 | 0,pos,c,h=>by simp [rns] at h
 | m+1,pos,c,h=>by
  rw [rns] at h
  split at h
  ·rcases List.mem_cons.1 h with rfl | h
   ·exact decode_ok s pos
   ·exact rns_ok s m _ c h
  ·simp at h
structure Inv (b:Nat→Prop) (xs:Ch3):Prop where
 ok:∀ x∈xs,okc x.1
 pt:∀ p,p<xs.length→b (frx xs p)∧b (tox xs p)∧frx xs p<tox xs p
 mo:∀ p q,p≤q→q<xs.length→frx xs p≤frx xs q
def Src (xs:Ch3) (i:Nat) (y:Nat × Nat × Nat):Prop:=∃ p q,i≤p∧p≤q∧q<xs.length∧y.2.1=frx xs p∧y.2.2=tox xs q∧okc y.1
theorem Src.low {xs:Ch3} {i j:Nat} {y:Nat × Nat × Nat} (h:Src xs j y) (hi:i≤j):Src xs i y:=by
 obtain ⟨p,q,h1,h2⟩:=h
 exact ⟨p,q,Nat.le_trans hi h1,h2⟩
theorem frx_get {xs:Ch3} {p:Nat} (h:p<xs.length):frx xs p=(xs[p]).2.1∧tox xs p=(xs[p]).2.2:=by simp [frx,tox,h]
theorem inv_of {b:Nat→Prop} {xs ys:Ch3} (h:Inv b xs) (h1:∀ y∈ys,Src xs 0 y) (h2:ys.Pairwise fun a c=>a.2.1≤c.2.1):Inv b ys:=by
 refine ⟨fun y hy=>?_,fun p hp=>?_,fun p q hpq hq=>?_⟩
 ·obtain ⟨_,_,_,_,_,_,_,ho⟩:=h1 y hy
  exact ho
 ·obtain ⟨p',q',_,hle,hq',e1,e2,_⟩:=h1 _ (List.getElem_mem hp)
  rw [(frx_get hp).1,(frx_get hp).2,e1,e2]
  have a1:=h.pt p' (by omega)
  have a2:=h.pt q' hq'
  have a3:=h.mo p' q' hle hq'
  exact ⟨a1.1,a2.2.1,by omega⟩
 ·rcases Nat.lt_or_ge p q with hlt | hge
  ·have:=List.pairwise_iff_getElem.1 h2 p q (by omega) hq hlt
   rw [(frx_get (by omega:p<ys.length)).1,(frx_get hq).1]
   exact this
  ·obtain rfl:p=q:=by omega
   exact Nat.le_refl _
theorem src_self {b:Nat→Prop} {xs:Ch3} (h:Inv b xs) {i:Nat} (hi:i<xs.length):Src xs i (xs[i]):=⟨i,i,Nat.le_refl _,Nat.le_refl _,hi,(frx_get hi).1.symm,(frx_get hi).2.symm,h.ok _ (List.getElem_mem hi)⟩
theorem src_from {b:Nat→Prop} {xs:Ch3} (h:Inv b xs) {i j:Nat} {y:Nat × Nat × Nat} (hy:Src xs j y) (hij:i≤j):frx xs i≤y.2.1:=by
 obtain ⟨p,q,h1,h2,h3,h4,_⟩:=hy
 rw [h4]
 exact h.mo i p (by omega) (by omega)
theorem tgs_src {b:Nat→Prop} {xs:Ch3} (h:Inv b xs):∀ m i,(∀ y∈tgs xs m i,Src xs i y)∧(tgs xs m i).Pairwise fun a c=>a.2.1≤c.2.1
 | 0,i=>by simp [tgs]
 | m+1,i=>by
  rw [tgs]
  by_cases hi:i<xs.length
  ·rw [dif_pos hi]
   by_cases h0:tgAt xs i=0
   ·rw [if_pos h0]
    have ih:=tgs_src h m (i+1)
    refine ⟨fun y hy=>?_,List.pairwise_cons.2 ⟨fun y hy=>?_,ih.2⟩⟩
    ·rcases List.mem_cons.1 hy with rfl | hy
     ·exact src_self h hi
     ·exact (ih.1 y hy).low (by omega)
    ·rw [← (frx_get hi).1]
     exact src_from h (ih.1 y hy) (by omega)
   ·rw [if_neg h0]
    have hle:=tgAt_le xs i (by omega)
    have ih:=tgs_src h m (i+tgAt xs i)
    refine ⟨fun y hy=>?_,List.pairwise_cons.2 ⟨fun y hy=>?_,ih.2⟩⟩
    ·rcases List.mem_cons.1 hy with rfl | hy
     ·exact ⟨i,i+tgAt xs i - 1,Nat.le_refl _,by omega,by omega,rfl,rfl,by unfold okc;omega⟩
     ·exact (ih.1 y hy).low (by omega)
    ·exact src_from h (ih.1 y hy) (by omega)
  ·rw [dif_neg hi]
   simp
theorem exs_src {b:Nat→Prop} {xs:Ch3} (h:Inv b xs) (ps:List (ByteArray × ByteArray)) (hp8:∀ p∈ps,p.2.size≤8):∀ m i,(∀ y∈exs ps xs m i,Src xs i y)∧(exs ps xs m i).Pairwise fun a c=>a.2.1≤c.2.1
 | 0,i=>by simp [exs]
 | m+1,i=>by
  rw [exs]
  by_cases hi:i<xs.length
  ·rw [dif_pos hi]
   by_cases h0:(exAt ps xs i).1.size=0
   ·rw [if_pos h0]
    have ih:=exs_src h ps hp8 m (i+1)
    refine ⟨fun y hy=>?_,List.pairwise_cons.2 ⟨fun y hy=>?_,ih.2⟩⟩
    ·rcases List.mem_cons.1 hy with rfl | hy
     ·exact src_self h hi
     ·exact (ih.1 y hy).low (by omega)
    ·rw [← (frx_get hi).1]
     exact src_from h (ih.1 y hy) (by omega)
   ·rw [if_neg h0]
    have hle:=(exAt_le ps hp8 xs i (by omega)).1
    have ih:=exs_src h ps hp8 m (i+(exAt ps xs i).1.size)
    have hl:∀ y∈lts (exAt ps xs i).2 (frx xs i) (tox xs (i+(exAt ps xs i).1.size - 1)),Src xs i y∧y.2.1=frx xs i:=fun y hy=>by
     obtain ⟨c,hc,rfl⟩:=List.mem_map.1 hy
     exact ⟨⟨i,i+(exAt ps xs i).1.size - 1,Nat.le_refl _,by omega,by omega,rfl,rfl,rns_ok _ _ _ c hc⟩,rfl⟩
    refine ⟨fun y hy=>?_,List.pairwise_append.2 ⟨?_,ih.2,fun y hy z hz=>?_⟩⟩
    ·rcases List.mem_append.1 hy with hy | hy
     ·exact (hl y hy).1
     ·exact (ih.1 y hy).low (by omega)
    ·rw [List.pairwise_iff_getElem]
     intro p q hp hq _
     rw [(hl _ (List.getElem_mem hp)).2,(hl _ (List.getElem_mem hq)).2]
     exact Nat.le_refl _
    ·rw [(hl y hy).2]
     exact src_from h (ih.1 z hz) (by omega)
  ·rw [dif_neg hi]
   simp
theorem fdC_two (x:Nat × Nat × Nat) (hx:okc x.1):∀ y∈fdC x,y.2=x.2∧okc y.1:=by
 unfold fdC
 intro y hy
 have o:∀ c,c<128→okc c:=fun c h=>ok_low h
 split at hy
 ·simp at hy;rcases hy with rfl | rfl <;> exact ⟨rfl,o _ (by simp)⟩
 ·split at hy
  ·simp at hy;subst hy;exact ⟨rfl,o _ (by simp)⟩
  ·split at hy
   ·rename_i hw
    simp [wit] at hw
    simp at hy;subst hy
    exact ⟨rfl,o _ (by omega)⟩
   ·split at hy
    ·simp at hy;subst hy;exact ⟨rfl,o _ (by simp)⟩
    ·simp at hy;subst hy;exact ⟨rfl,hx⟩
theorem fd_src {b:Nat→Prop} {xs:Ch3} (h:Inv b xs):∀ n i,xs.length≤i+n→(∀ y∈(xs.drop i).flatMap fdC,Src xs i y)∧((xs.drop i).flatMap fdC).Pairwise fun a c=>a.2.1≤c.2.1
 | 0,i,hn=>by rw [List.drop_of_length_le (by omega)];simp
 | n+1,i,hn=>by
  by_cases hi:i<xs.length
  ·have ih:=fd_src h n (i+1) (by omega)
   rw [List.drop_eq_getElem_cons hi,List.flatMap_cons]
   have hl:∀ y∈fdC (xs[i]),Src xs i y∧y.2.1=frx xs i:=fun y hy=>by
    obtain ⟨e,ho⟩:=fdC_two (xs[i]) (h.ok _ (List.getElem_mem hi)) y hy
    exact ⟨⟨i,i,Nat.le_refl _,Nat.le_refl _,hi,by rw [e,(frx_get hi).1],by rw [e,(frx_get hi).2],ho⟩,by rw [e,(frx_get hi).1]⟩
   refine ⟨fun y hy=>?_,List.pairwise_append.2 ⟨?_,ih.2,fun y hy z hz=>?_⟩⟩
   ·rcases List.mem_append.1 hy with hy | hy
    ·exact (hl y hy).1
    ·exact (ih.1 y hy).low (by omega)
   ·rw [List.pairwise_iff_getElem]
    intro p q hp hq _
    rw [(hl _ (List.getElem_mem hp)).2,(hl _ (List.getElem_mem hq)).2]
    exact Nat.le_refl _
   ·rw [(hl y hy).2]
    exact src_from h (ih.1 z hz) (by omega)
  ·rw [List.drop_of_length_le (by omega)];simp
theorem eaK_inv {b:Nat→Prop} {xs:Ch3} (h:Inv b xs) (i:Nat) (sp:Sp) (hw:SpW sp):Inv b (eaK i sp xs):=by
 unfold eaK
 split
 ·exact inv_of h (tgs_src h _ 0).1 (tgs_src h _ 0).2
 ·split
  ·have:=fd_src h xs.length 0 (by omega)
   rw [List.drop_zero] at this
   exact inv_of h this.1 this.2
  ·have:=exs_src h sp.ps (fun p hp=>(hw.pa p hp).2.2.2.2) xs.length 0
   exact inv_of h this.1 this.2
theorem exs_len (ps:List (ByteArray × ByteArray)) (hp8:∀ p∈ps,p.2.size≤8) (xs:Ch3):∀ m i,i≤xs.length→(exs ps xs m i).length≤8*(xs.length - i)
 | 0,i,_=>Nat.zero_le _
 | m+1,i,hi=>by
  rw [exs]
  by_cases hlt:i<xs.length
  ·rw [dif_pos hlt]
   by_cases h0:(exAt ps xs i).1.size=0
   ·rw [if_pos h0]
    have:=exs_len ps hp8 xs m (i+1) (by omega)
    simp only [List.length_cons];omega
   ·rw [if_neg h0]
    have hle:=exAt_le ps hp8 xs i hi
    have:=exs_len ps hp8 xs m (i+(exAt ps xs i).1.size) hle.1
    have:=lts_le (exAt ps xs i).2 (frx xs i) (tox xs (i+(exAt ps xs i).1.size - 1))
    simp only [List.length_append];omega
  ·rw [dif_neg hlt];exact Nat.zero_le _
theorem eaK_len (i:Nat) (sp:Sp) (hw:SpW sp) (xs:Ch3):(eaK i sp xs).length≤8*xs.length:=by
 unfold eaK
 split
 ·have:=tgs_length xs xs.length 0 (by omega)
  omega
 ·split
  ·have:=fd_le xs
   omega
  ·have:=exs_len sp.ps (fun p hp=>(hw.pa p hp).2.2.2.2) xs xs.length 0 (by omega)
   omega
def iS (y:ByteArray):Nat:=starts.findIdx fun z=>z.toList == y.toList
def iL (y:ByteArray):Nat:=lates.findIdx fun z=>z.toList == y.toList
theorem iS_at:∀ i (h:i<starts.length),iS (starts[i])=i:=by decide +kernel
theorem iL_at:∀ i (h:i<lates.length),iL (lates[i])=i:=by decide +kernel
def eaS (sp:Sp) (xs:Ch3):Ch3:=eaK (iS sp.nm) sp xs
def eaAll:List Sp→Ch3→Ch3
 | [],xs=>xs
 | e :: r,xs=>eaAll r (eaS e xs)
def laS (sp:Sp) (cs:List Nat):List (List Nat):=laK (iL sp.nm) sp cs
abbrev Tc:=List Nat × Nat × Nat × Nat
def tkC (t:Tc):Tk:=(en t.1,t.2)
def tokC (xs:Ch3) (i:Nat) (p:Nat × Nat):Tc:=((sub xs p.1 p.2).map (·.1),i,frx xs p.1,tox xs (p.1+p.2 - 1))
def toksC (xs:Ch3) {n:Nat}:Nat→List (Pce n)→List Tc
 | _,[]=>[]
 | i,x :: r=>tokC xs i x.1 :: toksC xs (i+1) r
def cutC (cu:Sp) (xs:Ch3):List Tc:=toksC xs 0 (pcs (iS cu.nm) xs)
def lgC (sp:Sp) (ts:List Tc):List Tc:=ts.flatMap fun t=>(laS sp t.1).map fun u=>(u,t.2)
def lateAll:List Sp→List Tc→Option (List Tc)
 | [],ts=>if ts.length≤300 then some ts else none
 | l :: r,ts=>if ts.length≤300 then lateAll r (lgC l ts) else none
def takeP (es:List Sp) (cu:Sp) (ls:List Sp) (xs:Ch3):Option (List Tc):=lateAll ls (cutC cu (eaAll es xs))
theorem tbs_eb (xs:Ch3):tbs xs=eb (xs.map (·.1)):=by
 rw [tbs,eb,List.flatMap_map]
theorem toks_eq (xs:Ch3) {n:Nat}:∀ (i:Nat) (l:List (Pce n)),toks xs i l=(toksC xs i l).map tkC
 | _,[]=>rfl
 | i,x :: r=>by
  rw [toks,toksC,List.map_cons,toks_eq xs (i+1) r]
  congr 1
  simp only [tok,tkC,tokC,en,tbs_eb]
theorem toksC_length (xs:Ch3) {n:Nat}:∀ (i:Nat) (l:List (Pce n)),(toksC xs i l).length=l.length
 | _,[]=>rfl
 | i,x :: r=>by simp [toksC,toksC_length xs (i+1) r]
theorem chg_eq (sp:Sp):∀ ts:List Tc,(∀ t∈ts,∀ c∈t.1,okc c)→chg (fun x=>(laS sp (dc x)).map en) (ts.map tkC)=(lgC sp ts).map tkC
 | [],_=>rfl
 | t :: r,h=>by
  have ih:=chg_eq sp r (fun u hu=>h u (by simp [hu]))
  have e:=dc_en t.1 (h t (by simp))
  simp only [chg,lgC,List.map_cons,List.flatMap_cons,List.map_append] at ih ⊢
  rw [ih]
  congr 1
  simp only [tkC,e,List.map_map]
  rfl
structure TkI (b:Nat→Prop) (K:Nat) (ts:List Tc):Prop where
 ok:∀ t∈ts,(∀ c∈t.1,okc c)∧t.1≠[]∧t.1.length≤K∧b t.2.2.1∧b t.2.2.2∧t.2.2.1<t.2.2.2
 ps:ts.Pairwise fun a c=>a.2.1≤c.2.1
theorem toksC_mem (xs:Ch3) {n:Nat}:∀ (i:Nat) (l:List (Pce n)) (t:Tc),t∈toksC xs i l→∃ (j:Nat) (x:Pce n),x∈l∧i≤j∧t=tokC xs j x.1
 | _,[],t,h=>by simp [toksC] at h
 | i,x :: r,t,h=>by
  rcases List.mem_cons.1 h with rfl | h
  ·exact ⟨i,x,by simp,Nat.le_refl _,rfl⟩
  ·obtain ⟨j,y,hy,hj,e⟩:=toksC_mem xs (i+1) r t h
   exact ⟨j,y,by simp [hy],by omega,e⟩
theorem toksC_ps (xs:Ch3) {n:Nat}:∀ (i:Nat) (l:List (Pce n)),(toksC xs i l).Pairwise fun a c=>a.2.1≤c.2.1
 | _,[]=>List.Pairwise.nil
 | i,x :: r=>by
  refine List.pairwise_cons.2 ⟨fun t ht=>?_,toksC_ps xs (i+1) r⟩
  obtain ⟨j,y,_,hj,rfl⟩:=toksC_mem xs (i+1) r t ht
  show i≤j
  omega
theorem cutC_inv {b:Nat→Prop} {xs:Ch3} (h:Inv b xs) (cu:Sp) (K:Nat) (hK:xs.length≤K):TkI b K (cutC cu xs):=by
 refine ⟨fun t ht=>?_,toksC_ps xs 0 _⟩
 obtain ⟨j,x,_,_,rfl⟩:=toksC_mem xs 0 _ t ht
 obtain ⟨⟨i,z⟩,h1,h2⟩:=x
 simp only at h1 h2
 have hl:(sub xs i z).length=z:=sub_length h2
 have e:(sub xs i z)=(xs.drop i).take z:=rfl
 have a1:=h.pt i (by omega)
 have a2:=h.pt (i+z - 1) (by omega)
 have a3:=h.mo i (i+z - 1) (by omega) (by omega)
 refine ⟨fun c hc=>?_,fun hn=>?_,?_,a1.1,a2.2.1,?_⟩
 ·obtain ⟨y,hy,rfl⟩:=List.mem_map.1 hc
  rw [e] at hy
  exact h.ok y (List.mem_of_mem_drop (List.mem_of_mem_take hy))
 ·have:=congrArg List.length hn
  simp only [tokC,List.length_map,hl,List.length_nil] at this
  omega
 ·simp only [tokC,List.length_map,hl]
  omega
 ·show frx xs i<tox xs (i+z - 1)
  omega
theorem edF_sub (cs:List Nat) (lo hi:Nat):∀ m k,∀ u∈edF cs lo hi m k,∃ j,1≤j∧j≤cs.length∧u=cs.take j
 | 0,k,u,h=>by simp [edF] at h
 | m+1,k,u,h=>by
  rw [edF] at h
  split at h
  ·rename_i hc
   rcases List.mem_append.1 h with h | h
   ·split at h
    ·simp at h
     exact ⟨k+1,by omega,by omega,h⟩
    ·simp at h
   ·exact edF_sub cs lo hi m (k+1) u h
  ·simp at h
theorem grF_sub (cs:List Nat) (lo hi:Nat):∀ m k,∀ u∈grF cs lo hi m k,∃ i j,1≤j∧i+j≤cs.length∧u=(cs.drop i).take j
 | 0,k,u,h=>by simp [grF] at h
 | m+1,k,u,h=>by
  rw [grF] at h
  split at h
  ·rename_i hc
   rcases List.mem_append.1 h with h | h
   ·obtain ⟨j,h1,h2,rfl⟩:=edF_sub (cs.drop k) lo hi _ 0 u h
    rw [List.length_drop] at h2
    exact ⟨k,j,h1,by omega,rfl⟩
   ·exact grF_sub cs lo hi m (k+1) u h
  ·simp at h
theorem part_ok {cs:List Nat} (hc:∀ c∈cs,okc c) (i j:Nat) (hj:1≤j) (hij:i+j≤cs.length):(∀ c∈(cs.drop i).take j,okc c)∧(cs.drop i).take j≠[]∧((cs.drop i).take j).length≤cs.length:=by
 refine ⟨fun c h=>hc c (List.mem_of_mem_drop (List.mem_of_mem_take h)),fun h=>?_,by simp;omega⟩
 have:=congrArg List.length h
 simp at this
 omega
theorem laK_ok (i:Nat) (sp:Sp) (hw:SpW sp) (cs:List Nat) (hc:∀ c∈cs,okc c) (hne:cs≠[]):∀ u∈laK i sp cs,(∀ c∈u,okc c)∧u≠[]∧u.length≤cs.length+8:=by
 unfold laK
 intro u hu
 split at hu
 ·simp at hu;subst hu
  refine ⟨fun c h=>?_,by simpa using hne,by simp⟩
  obtain ⟨d,hd,rfl⟩:=List.mem_map.1 h
  exact sml_ok (hc d hd)
 ·split at hu
  ·simp at hu;subst hu
   obtain ⟨ds,hd,he,hn,hl⟩:=stm_ok cs hc
   rw [he,dc_en ds hd]
   exact ⟨hd,hn hne,hl⟩
  ·split at hu
   ·split at hu
    ·simp at hu
    ·simp at hu;subst hu;exact ⟨hc,hne,by omega⟩
   ·split at hu
    ·rcases List.mem_cons.1 hu with rfl | hu
     ·exact ⟨hc,hne,by omega⟩
     ·obtain ⟨y,hy,rfl⟩:=List.mem_map.1 hu
      obtain ⟨p,hp,rfl⟩:=syF_mem _ _ _ hy
      obtain ⟨_,ha,_,h1,h8⟩:=hw.pa p hp
      have hlen:(bc p.2).length=p.2.size:=by simp [bc]
      refine ⟨bc_ok _ ha,fun h=>?_,by omega⟩
      rw [h] at hlen
      simp at hlen
      omega
    ·split at hu
     ·split at hu
      ·simp at hu;subst hu;exact ⟨hc,hne,by omega⟩
      ·simp at hu
     ·split at hu
      ·obtain ⟨i,j,h1,h2,rfl⟩:=grF_sub cs _ _ _ _ u hu
       have:=part_ok hc i j h1 h2
       exact ⟨this.1,this.2.1,by omega⟩
      ·obtain ⟨j,h1,h2,rfl⟩:=edF_sub cs _ _ _ _ u hu
       have:=part_ok hc 0 j h1 (by omega)
       rw [List.drop_zero] at this
       exact ⟨this.1,this.2.1,by omega⟩
theorem lgC_inv {b:Nat→Prop} {K:Nat} {ts:List Tc} (h:TkI b K ts) (sp:Sp) (hw:SpW sp):TkI b (K+8) (lgC sp ts):=by
 refine ⟨fun t ht=>?_,?_⟩
 ·obtain ⟨u,hu,ht⟩:=List.mem_flatMap.1 ht
  obtain ⟨v,hv,rfl⟩:=List.mem_map.1 ht
  obtain ⟨h1,h2,h3,h4⟩:=h.ok u hu
  obtain ⟨k1,k2,k3⟩:=laK_ok _ sp hw u.1 h1 h2 v hv
  exact ⟨k1,k2,by show v.length≤K+8;omega,h4⟩
 ·have key:∀ l:List Tc,l.Pairwise (fun a c=>a.2.1≤c.2.1)→(lgC sp l).Pairwise fun a c=>a.2.1≤c.2.1:=fun l=>by
   induction l with
   | nil=>intro _;exact List.Pairwise.nil
   | cons t r ih =>
    intro hp
    rw [List.pairwise_cons] at hp
    have e:lgC sp (t :: r)=(laS sp t.1).map (fun u=>(u,t.2))++lgC sp r:=rfl
    rw [e]
    refine List.pairwise_append.2 ⟨?_,ih hp.2,fun x hx y hy=>?_⟩
    ·rw [List.pairwise_map]
     exact List.pairwise_iff_getElem.2 (fun _ _ _ _ _=>Nat.le_refl _)
    ·obtain ⟨u,hu,rfl⟩:=List.mem_map.1 hx
     obtain ⟨z,hz,hy⟩:=List.mem_flatMap.1 hy
     obtain ⟨v,_,rfl⟩:=List.mem_map.1 hy
     exact hp.1 z hz
  exact key ts h.ps
end Pl
end Go.Proofs.YtcmgclckknpecaaGreatDoor
namespace Go.Proofs.YtcmgclckknpecaaGreatDoor
open Go.RowKit
def All2 {α β:Type} (R:α→β→Prop):List α→List β→Prop
 | [],[]=>True
 | a :: r,b :: t=>R a b∧All2 R r t
 | _,_=>False
theorem All2.snoc {α β:Type} {R:α→β→Prop} {a:α} {b:β} (hab:R a b):∀ {l:List α} {m:List β},All2 R l m→All2 R (l++[a]) (m++[b])
 | [],[],_=>⟨hab,trivial⟩
 | _ :: _,_ :: _,h=>⟨h.1,All2.snoc hab h.2⟩
theorem All2.mono {α β:Type} {R R':α→β→Prop} (hr:∀ a b,R a b→R' a b):∀ {l:List α} {m:List β},All2 R l m→All2 R' l m
 | [],[],_=>trivial
 | _ :: _,_ :: _,h=>⟨hr _ _ h.1,All2.mono hr h.2⟩
def RE [Inhabited Exb] (w:World) (q:Sq) (f:Value):Prop:=∃ i,∃ hi:i<Pl.starts.length,i<3∧q.1.nm=Pl.starts[i]∧EOk f i q.1 w
def RL [Inhabited Exb] (w:World) (q:Sq) (f:Value):Prop:=∃ i,∃ hi:i<Pl.lates.length,q.1.nm=Pl.lates[i]∧LOk f i q.1 w
theorem RE.agr [Inhabited Exb] {w w':World} (ha:Agr w w') (q:Sq) (f:Value) (h:RE w q f):RE w' q f:=by
 obtain ⟨i,hi,h1,h2,h3⟩:=h
 exact ⟨i,hi,h1,h2,h3.agr ha⟩
theorem RL.agr [Inhabited Exb] {w w':World} (ha:Agr w w') (q:Sq) (f:Value) (h:RL w q f):RL w' q f:=by
 obtain ⟨i,hi,h2,h3⟩:=h
 exact ⟨i,hi,h2,h3.agr ha⟩
structure Srow [Inhabited Exb] (base:Nat) (g:Nat) (L:List Sq) (w:World):Prop where
 c:∀ j (h:j<L.length),∃ q1 m1 d1 q2 m2 d2,∃ u v:Int,(L[j]).2=(.slice q1 m1 d1,.slice q2 m2 d2,u,v)∧w.cell? ⟨g,j*5,none⟩=some (.string (L[j]).1.nm)∧w.cell? ⟨g,j*5+1,none⟩=some (.slice q1 m1 d1)∧w.cell? ⟨g,j*5+2,none⟩=some (.slice q2 m2 d2)∧w.cell? ⟨g,j*5+3,none⟩=some (.int .i64 u)∧w.cell? ⟨g,j*5+4,none⟩=some (.int .i64 v)
 o:∀ q∈L,StE base q.1 q.2.1 q.2.2.1 q.2.2.2.1 q.2.2.2.2 w
theorem info189:(Tryz.prog.info? 189).map (fun i=>(i.zero,i.size,i.bytes))=some (some (.agg #[.nilFunc]),1,8):=by kernel_rfl
theorem agr_row [Inhabited Exb] {A B:World} {n0 size n:Nat} {e:TypeId} {v:Value} {xs:List Value} (hg:A.grownBy B v.ownBlock) (h:A.ownsRow n0 e size v n xs) (h0:0<n0) (he:e≠9∧e≠96∧e≠357∧e≠372):Agr A B:=Agr.of_grown hg (fun r ob er ho hk=>by
 rcases h.2 with ⟨rfl,_⟩ | ⟨g,cap,cur,rfl,hb,hgb,_⟩
 ·simp [Value.ownBlock] at er
 ·obtain rfl:g=r:=by simpa [Value.ownBlock] using er
  rw [hgb] at ho
  cases ho
  rcases hk with h | ⟨c,t,fz,h1,h2⟩
  ·omega
  ·cases h1
   rcases h2 with h | h | h | h
   ·exact he.1 h.1
   ·exact he.2.1 h
   ·exact he.2.2.1 h
   ·exact he.2.2.2 h)
end Go.Proofs.YtcmgclckknpecaaGreatDoor
namespace Go.Proofs.YtcmgclckknpecaaGreatDoor
open Go.RowKit Go.Shelf
theorem u8_eq {a b:Nat} (ha:a<256) (hb:b<256) (h:a.toUInt8=b.toUInt8):a=b:=by
 have:=congrArg UInt8.toNat h
 rwa [u8nat a ha,u8nat b hb] at this
theorem code_ok (f:Nat→Nat) (n:Nat) (hb:∀ j,f j<256):Pl.okc (Pl.code f n):=by
 by_cases h:Pl.code f n=65533
 ·rw [h];unfold Pl.okc;omega
 ·refine Classical.byContradiction fun hno=>h ?_
  have e:=Pl.enc_code f n hb h
  have hbad:Lib.encodeRuneZ ((Pl.code f n:Nat):Int)=[239,191,189]:=Lib.encodeRuneZ_bad (by unfold Pl.okc at hno;omega)
  unfold Lib.encodeRune at e
  rw [hbad] at e
  have hl:Pl.size f n=3:=by
   have:=congrArg List.length e
   simpa using this.symm
  rw [hl] at e
  have e3:(List.range 3).map (fun j=>(f j).toUInt8)=[(f 0).toUInt8,(f 1).toUInt8,(f 2).toUInt8]:=rfl
  rw [e3] at e
  simp only [List.map_cons,List.map_nil,List.cons.injEq,and_true] at e
  obtain ⟨q0,q1,q2⟩:=e
  have f0:239=f 0:=u8_eq (by omega) (hb 0) q0
  have f1:191=f 1:=u8_eq (by omega) (hb 1) q1
  have f2:189=f 2:=u8_eq (by omega) (hb 2) q2
  have hs:Pl.size f n=Pl.lenOf (f 0):=by
   rcases Nat.decEq (Pl.size f n) (Pl.lenOf (f 0)) with h' | h'
   ·exact absurd (Pl.code_no h') h
   ·exact h'
  rw [Pl.code_yes hs,← f0]
  show Pl.codeTo f 3=65533
  rw [Pl.codeTo_succ f (k:=2) (by omega),Pl.codeTo_succ f (k:=1) (by omega),Pl.codeTo_one,← f0,← f1,← f2]
  rfl
theorem cs_ok (s:ByteArray):∀ m i,∀ x∈Pl.cs (Pl.bt s) s.size m i,Pl.okc x.1:=by
 intro m
 induction m with
 | zero=>intro i x hx;simp [Pl.cs] at hx
 | succ m ih =>
  intro i x hx
  rw [Pl.cs] at hx
  split at hx
  ·rcases List.mem_cons.1 hx with rfl | hx
   ·exact code_ok _ _ (fun j=>Pl.bt_lt s _)
   ·exact ih _ x hx
  ·simp at hx
end Go.Proofs.YtcmgclckknpecaaGreatDoor
namespace Go.Proofs.YtcmgclckknpecaaGreatDoor
open Go.RowKit Go.Shelf
theorem Srow.keep [Inhabited Exb] {base g:Nat} {L:List Sq} {w W:World} (h:Srow base g L w) (ha:Agr w W) (hc:0<L.length→∀ o,W.cell? ⟨g,o,none⟩=w.cell? ⟨g,o,none⟩):Srow base g L W :=
 ⟨fun j hj=>by
  obtain ⟨q1,m1,d1,q2,m2,d2,u,v,h0,g0,g1,g2,g3,g4⟩:=h.c j hj
  have k:=hc (by omega)
  exact ⟨q1,m1,d1,q2,m2,d2,u,v,h0,(k _).trans g0,(k _).trans g1,(k _).trans g2,(k _).trans g3,(k _).trans g4⟩,fun q hq=>(h.o q hq).agr ha⟩
theorem All2.get {α β:Type} {R:α→β→Prop}:∀ {l:List α} {m:List β},All2 R l m→∀ j (h:j<l.length),∃ f,m[j]?=some f∧R (l[j]) f
 | _ :: _,_ :: _,h,0,_=>⟨_,rfl,h.1⟩
 | _ :: _,_ :: _,h,j+1,hj=>by
  obtain ⟨f,h1,h2⟩:=All2.get h.2 j (by simpa using hj)
  exact ⟨f,h1,h2⟩
structure TakO (R:Option (List Pl.Tc)) (n0:Nat) (e:Ending) (w':World):Prop where
 ex:(∃ ts v,R=some ts∧e=.returned (.tuple #[v,.int .i64 0])∧w'.ownsRow n0 27 4 v ts.length ((ts.map Pl.tkC).flatMap tenc))∨(R=none∧e=.returned (.tuple #[.slice none 0 0,.int .i64 3]))
theorem cdx_inv {xs:Ch3} (h:∀ x∈xs,Pl.okc x.1) (k:Nat):Pl.cdx xs k≤67108863:=by
 by_cases hk:k<xs.length
 ·rw [Pl.cdx_eq hk]
  have:=h _ (List.getElem_mem hk)
  unfold Pl.okc at this
  omega
 ·simp [Pl.cdx,hk]
theorem lateAll_many {ls:List Sp} {ts:List Pl.Tc} (h:300<ts.length):Pl.lateAll ls ts=none:=by
 cases ls <;> simp [Pl.lateAll] <;> omega
structure LtR (n0:Nat) (LL:List Sq) (R:Option (List Pl.Tc)) (w4:World) (tk ok i:Value) (wr:World):Prop where
 ex:(∃ (j:Nat) (ts:List Pl.Tc),i=.int .i64 (j:Int)∧j≤LL.length∧ok=.bool true∧wr.ownsRow n0 27 4 tk ts.length ((ts.map Pl.tkC).flatMap tenc)∧Pl.lateAll ((LL.drop j).map (·.1)) ts=R∧ts.length≤300∧Pl.TkI (fun _=>True) (268435456+8*j) ts∧Below w4.heap.size w4 wr)∨(∃ j:Nat,i=.int .i64 (j:Int)∧j≤LL.length∧ok=.bool false∧R=none∧tk=.slice none 0 0∧Below w4.heap.size w4 wr)
end Go.Proofs.YtcmgclckknpecaaGreatDoor
namespace Go.Proofs.YtcmgclckknpecaaGreatDoor
namespace Pl
theorem lets_in (s:ByteArray):∀ m a j,a≤j→j<lets s m a→byteIn s 97 122 j=true
 | 0,a,j,h1,h2=>by simp only [lets] at h2;omega
 | m+1,a,j,h1,h2=>by
  rw [lets] at h2
  split at h2
  ·rename_i hb
   by_cases h:j=a
   ·rw [h];exact hb
   ·exact lets_in s m (a+1) j (by omega) h2
  ·omega
theorem lets_max (s:ByteArray):∀ m a,lets s m a≤a+m
 | 0,a=>Nat.le_refl _
 | m+1,a=>by
  rw [lets]
  split
  ·have:=lets_max s m (a+1);omega
  ·omega
theorem bt_get (s:ByteArray) (i:Nat) (h:i<s.size):bt s i=(s[i]).toNat:=by
 simp [bt,h]
theorem wordC_size (s:ByteArray) (a:Nat) (ha:a≤s.size):(wordC s a).size=(word s a).2 - a:=by
 have:=lets_fits s 8 a ha
 unfold wordC
 rw [ByteArray.size_extract]
 show min (lets s 8 a) s.size - a=lets s 8 a - a
 omega
theorem wordC_asc (s:ByteArray) (a:Nat) (ha:a≤s.size):Asc (wordC s a):=by
 intro i hi
 have hz:=wordC_size s a ha
 have hlt:a+i<lets s 8 a:=by
  have:(word s a).2=lets s 8 a:=rfl
  omega
 obtain ⟨h1,h2,h3⟩:=byteIn_lt (lets_in s 8 a (a+i) (by omega) hlt)
 have e:(wordC s a)[i]=s[a+i]:=by
  unfold wordC
  exact ByteArray.getElem_extract (by simpa [wordC] using hi)
 rw [e]
 rw [bt_get s _ h1] at h3
 omega
theorem asc_data {s:ByteArray} (h:Asc s):∀ x∈s.data.toList,x.toNat<128:=by
 intro x hx
 obtain ⟨i,hi,rfl⟩:=List.mem_iff_getElem.1 hx
 have hi':i<s.size:=by rw [Array.length_toList] at hi;exact hi
 exact h i hi'
theorem rowC_len {α:Type} (s:ByteArray) (item:Nat→Bool × Nat) (cont:Nat→α):∀ m a,(rowC s item cont m a).length≤m
 | 0,_=>Nat.le_refl _
 | m+1,a=>by
  rw [rowC]
  split
  ·have:=rowC_len s item cont m ((item a).2+1)
   simp only [List.length_cons];omega
  ·simp
theorem rowC_mem {α:Type} (s:ByteArray) (item:Nat→Bool × Nat) (cont:Nat→α):∀ m a c,a≤s.size→lst s item m a=(true,c)→∀ x∈rowC s item cont m a,∃ a',a'≤s.size∧(item a').1=true∧x=cont a'
 | 0,a,c,_,h,x,hx=>by simp [rowC] at hx
 | m+1,a,c,ha,h,x,hx=>by
  rw [lst,thenP] at h
  have h1:(item a).1=true:=by
   split at h
   ·assumption
   ·simp at h
  rw [if_pos h1] at h
  rw [rowC] at hx
  rcases List.mem_cons.1 hx with rfl | hx
  ·exact ⟨a,ha,h1,rfl⟩
  ·split at hx
   ·rename_i hb
    rw [if_pos hb] at h
    have:=(byteIn_lt hb).1
    exact rowC_mem s item cont m _ c (by omega) h x hx
   ·simp at hx
theorem spW_of (s:ByteArray) (hm:s.size≤80) (y:ByteArray) (k b c:Nat) (hb:b≤s.size) (h:body s k b=(true,c)):SpW (spC s y k b):=by
 refine ⟨?_,?_,?_,?_⟩
 ·simp only [spC]
  split
  ·have:=rowC_len s (word s) (wordC s) (s.size+1) b
   unfold wordsC;omega
  ·simp
 ·simp only [spC]
  split
  ·have:=rowC_len s (pairP s) (pairC s) (s.size+1) b
   unfold pairsC;omega
  ·simp
 ·intro p hp
  simp only [spC] at hp
  split at hp
  ·rename_i hk
   rw [body,if_pos hk] at h
   obtain ⟨a,ha,h1,rfl⟩:=rowC_mem s (pairP s) (pairC s) _ b c hb h p hp
   rw [pairP,thenP] at h1
   have w1:(word s a).1=true:=by
    split at h1
    ·assumption
    ·simp at h1
   rw [if_pos w1,thenP] at h1
   have s1:(sign s 61 (word s a).2).1=true:=by
    split at h1
    ·assumption
    ·simp at h1
   rw [if_pos s1] at h1
   have hs:(word s a).2<s.size∧(sign s 61 (word s a).2).2=(word s a).2+1:=by
    unfold sign at s1 ⊢
    split at s1
    ·rename_i hbb
     rw [if_pos hbb]
     exact ⟨(byteIn_lt hbb).1,rfl⟩
    ·simp at s1
   rw [hs.2] at h1
   have z1:a<lets s 8 a:=of_decide_eq_true w1
   have z2:(word s a).2+1<lets s 8 ((word s a).2+1):=of_decide_eq_true h1
   have y1:=wordC_size s a ha
   have y2:=wordC_size s ((word s a).2+1) (by omega)
   have m2:=lets_max s 8 ((word s a).2+1)
   have q1:(word s a).2=lets s 8 a:=rfl
   have q2:(word s ((word s a).2+1)).2=lets s 8 ((word s a).2+1):=rfl
   refine ⟨wordC_asc s a ha,asc_data (wordC_asc s _ (by omega)),?_,?_,?_⟩
   ·show 1≤(wordC s a).size;omega
   ·show 1≤(wordC s ((word s a).2+1)).size;omega
   ·show (wordC s ((word s a).2+1)).size≤8;omega
  ·simp at hp
 ·simp only [spC]
  split
  ·rename_i hk
   subst hk
   simp only [body,bnds] at h
   have hq:byteIn s 49 57 b=true:=by
    by_cases hq:byteIn s 49 57 b=true
    ·exact hq
    ·simp [hq] at h
   rw [if_neg (by omega),if_neg (by omega),if_pos trivial,if_pos hq,thenP] at h
   have s1:(sign s 44 (b+1)).1=true:=by
    split at h
    ·assumption
    ·simp at h
   rw [if_pos s1] at h
   have hs:(sign s 44 (b+1)).2=b+2:=by
    unfold sign at s1 ⊢
    split at s1
    ·rename_i hbb
     rw [if_pos hbb]
    ·simp at s1
   rw [hs] at h
   have hz:byteIn s (bt s b) 57 (b+2)=true:=by
    by_cases hz:byteIn s (bt s b) 57 (b+2)=true
    ·exact hz
    ·simp [hz] at h
   have:=(byteIn_lt hz).2.2
   show bt s (b+2) - 48≤9
   omega
  ·simp
def bdr (xs:Ch3) (p:Nat):Prop:=p=0∨∃ x∈xs,x.2.2=p
theorem cs_ch (g:Nat→Nat) (n:Nat):∀ m i p (hp:p<(cs g n m i).length),(p=0→((cs g n m i)[p]).2.1=i)∧(∀ q (hq:q<(cs g n m i).length),p=q+1→((cs g n m i)[p]).2.1=((cs g n m i)[q]).2.2)∧((cs g n m i)[p]).2.1<((cs g n m i)[p]).2.2∧i≤((cs g n m i)[p]).2.1
 | 0,i,p,hp=>by simp [cs] at hp
 | m+1,i,p,hp=>by
  by_cases hi:i<n
  ·have e:cs g n (m+1) i=(code (fun j=>g (i+j)) (n - i),i,i+size (fun j=>g (i+j)) (n - i)) :: cs g n m (i+size (fun j=>g (i+j)) (n - i)):=by rw [cs,if_pos hi]
   have hsz:=size_ge (fun j=>g (i+j)) (n - i)
   have ih:=cs_ch g n m (i+size (fun j=>g (i+j)) (n - i))
   simp only [e] at hp ⊢
   cases p with
   | zero=>exact ⟨fun _=>rfl,fun q _ h=>by omega,by show i<i+_;omega,Nat.le_refl _⟩
   | succ p =>
    have hp':p<(cs g n m (i+size (fun j=>g (i+j)) (n - i))).length:=by simpa using hp
    obtain ⟨a1,a2,a3,a4⟩:=ih p hp'
    simp only [List.getElem_cons_succ]
    refine ⟨fun h=>by omega,fun q hq h=>?_,a3,by omega⟩
    cases q with
    | zero=>exact a1 (by omega)
    | succ q=>exact a2 q (by simpa using hq) (by omega)
  ·have e:cs g n (m+1) i=[]:=by rw [cs,if_neg hi]
   simp [e] at hp
theorem cs_inv (s:ByteArray) (xs:Ch3) (h:cs (bt s) s.size s.size 0=xs):Inv (bdr xs) xs:=by
 have hc:=cs_ch (bt s) s.size s.size 0
 have ho:=cs_ok s s.size 0
 rw [h] at hc ho
 refine ⟨ho,fun p hp=>?_,?_⟩
 ·rw [(frx_get hp).1,(frx_get hp).2]
  obtain ⟨a1,a2,a3,_⟩:=hc p hp
  refine ⟨?_,.inr ⟨_,List.getElem_mem hp,rfl⟩,a3⟩
  cases p with
  | zero=>exact .inl (a1 rfl)
  | succ p=>exact .inr ⟨_,List.getElem_mem (by omega:p<xs.length),(a2 p (by omega) rfl).symm⟩
 ·intro p q hpq
  induction q with
  | zero => intro hq; obtain rfl : p = 0 := by omega
            exact Nat.le_refl _
  | succ q ih =>
   intro hq
   by_cases e:p=q+1
   ·rw [e];exact Nat.le_refl _
   ·have:=ih (by omega) (by omega)
    have a:=hc (q+1) hq
    have b:=hc q (by omega)
    rw [(frx_get hq).1,a.2.1 q (by omega) rfl]
    rw [(frx_get (by omega:q<xs.length)).1] at this
    have:=b.2.2.1
    omega
theorem Inv.weak {b b':Nat→Prop} {xs:Ch3} (h:Inv b xs) (hb:∀ p,b p→b' p):Inv b' xs:=⟨h.ok,fun p hp=>⟨hb _ (h.pt p hp).1,hb _ (h.pt p hp).2.1,(h.pt p hp).2.2⟩,h.mo⟩
end Pl
end Go.Proofs.YtcmgclckknpecaaGreatDoor
