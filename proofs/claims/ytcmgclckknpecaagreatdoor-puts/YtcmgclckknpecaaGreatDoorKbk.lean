import Derived.Test.YtcmgclckknpecaaGreatDoorKbi
import Derived.Test.YtcmgclckknpecaaGreatDoorKbc
import Derived.Test.YtcmgclckknpecaaGreatDoorKbj
import Derived.Test.YtcmgclckknpecaaGreatDoorKbd
namespace Go.Proofs.YtcmgclckknpecaaGreatDoor
open Go.RowKit
structure TkA (R:Option (List Pl.Tc)) (n0:Nat) (e:Ending) (w':World):Prop where
 ex:(∃ ts v,R=some ts∧e=.returned (.tuple #[v,.bool true])∧Tkr n0 v ts w')∨(R=none∧e=.returned (.tuple #[.slice none 0 0,.bool false]))
structure TkL (n0:Nat) (Ls:List Sp) (R:Option (List Pl.Tc)) (w:World) (lv tv iv:Value) (wr:World):Prop where
 ex:∃ (k:Nat) (ys:Ch3) (ts:List Pl.Tc) (K:Nat),iv=.int .i64 (k:Int)∧k≤Ls.length∧wr.ownsRow n0 283 3 lv ys.length (ys.flatMap enc)∧Tkr n0 tv ts wr∧Below n0 w wr∧Pl.runT (Ls.drop k) (ys,ts)=R∧ys.length*8 ^ Pl.ec (Ls.drop k)≤268435456∧Pl.Inv (fun _=>True) ys∧Pl.TkI (fun _=>True) K ts∧ts.length≤300∧268435456≤K∧K+8*(Ls.length - k)≤268435600
structure TkK (W0:World) (X:Array Value) (sp:Sp) (ts fin:List Pl.Tc) (ov kv:Value) (wr:World):Prop where
 ex:∃ (q:Nat) (pre:List Pl.Tc),kv=.int .i64 (q:Int)∧q≤ts.length∧pre.length≤q*2700001001∧pre++Pl.lgC sp (ts.drop q)=fin∧Tkr (W0.heap.size+1) ov pre wr∧Blk W0.heap.size 207 X wr∧Below W0.heap.size W0 wr
structure TkJ (W0 w3:World) (o3:Option Nat) (pre ms:List Pl.Tc) (ov jv:Value) (wr:World):Prop where
 ex:∃ j:Nat,jv=.int .i64 (j:Int)∧j≤ms.length∧Tkr (W0.heap.size+1) ov (pre++ms.take j) wr∧w3.grownBy wr o3∧(ov.ownBlock=o3∨∀ x,ov.ownBlock=some x→w3.heap.size≤x)
theorem own_of {w:World} {b:Nat} {e:TypeId} {sz n:Nat} {v:Value} {xs:List Value} (_:w.ownsRow b e sz v n xs):∃ o,v.ownBlock=o:=⟨_,rfl⟩
theorem cut_names:∀ i (_:i<Pl.starts.length),3≤i→((Pl.stp (Pl.starts.getD i ⟨#[]⟩)).toList == [116,97,103,115])=false∧((Pl.stp (Pl.starts.getD i ⟨#[]⟩)).toList == [102,111,108,100])=false∧((Pl.stp (Pl.starts.getD i ⟨#[]⟩)).toList == [109,97,112])=false∧cutB (Pl.stp (Pl.starts.getD i ⟨#[]⟩))=true:=by decide +kernel
theorem late_names:∀ i (_:i<Pl.lates.length),((Pl.stp (Pl.lates.getD i ⟨#[]⟩)).toList == [116,97,103,115])=false∧((Pl.stp (Pl.lates.getD i ⟨#[]⟩)).toList == [102,111,108,100])=false∧((Pl.stp (Pl.lates.getD i ⟨#[]⟩)).toList == [109,97,112])=false∧cutB (Pl.stp (Pl.lates.getD i ⟨#[]⟩))=false:=by decide +kernel
set_option maxRecDepth 100000 in
set_option maxHeartbeats 8000000 in
theorem rtake_any (s:ByteArray) (hs:s.size≤120) (Ls:List Sp) (hKs:∀ q∈Ls,Kst q) (hLl:Ls.length≤15) (hec:Pl.ec Ls≤7) (base b2:Nat) (xs0:List Value) (v:Value) (n:Nat) (w:World) (hRow:w.ownsRow base 207 5 v n xs0) (hQ:Stq b2 Ls xs0 w) (xs:Ch3) (HCS:Hid (Pl.cs (Pl.bt s) s.size s.size 0=xs)) (R:Option (List Pl.Tc)) (HR:Hid (Pl.runT Ls (xs,[])=R)) :
  Calls Tryz.prog 38 #[v,.string s] w fun e w'=>TkA R w.heap.size e w'∧Below w.heap.size w w':=by
 obtain ⟨rfl,ga,gc,g,rfl,hga,hAt⟩:=Stq.at hRow hQ
 have hxl:xs.length≤120:=by have:=Pl.cs_length (Pl.bt s) s.size s.size 0;rw [HCS.out] at this;omega
 have hI0:Pl.Inv (fun _=>True) xs:=(Pl.cs_inv s xs HCS.out).weak fun _ _=>trivial
 have hE0:xs.length*8 ^ Pl.ec Ls≤268435456:=by
  have h1:8 ^ Pl.ec Ls≤8 ^ 7:=Nat.pow_le_pow_right (by omega) hec
  have h2:(8:Nat) ^ 7=2097152:=by decide
  rw [h2] at h1
  exact Nat.le_trans (Nat.mul_le_mul hxl h1) (by decide)
 have HIN:Hid (xs.length*8 ^ Pl.ec Ls≤268435456∧Pl.Inv (fun _=>True) xs):=⟨hE0,hI0⟩
 have HCH:Hid (∀ W,Calls Tryz.prog 75 #[.string s] W fun e w'=>∃ v,e=.returned v∧w'.ownsRow W.heap.size 283 3 v xs.length (xs.flatMap enc)∧Below W.heap.size W w'):=fun W=>by rw [← HCS.out];exact chars_any s W hs
 have HAT:Hid (∀ k (hk:k<Ls.length),∃ v1 v2 x z,w.cell? ⟨g,k*5,none⟩=some (.string (Pl.stp (Ls[k]).nm))∧w.cell? ⟨g,k*5+1,none⟩=some v1∧w.cell? ⟨g,k*5+2,none⟩=some v2∧w.cell? ⟨g,k*5+3,none⟩=some (.int .i64 x)∧w.cell? ⟨g,k*5+4,none⟩=some (.int .i64 z)∧StR b2 (Ls[k]) v1 v2 x z w):=hAt
 have HKS:Hid (∀ q∈Ls,Kst q):=hKs
 obtain ⟨i0,hi128,hz0,hz1,hz2⟩:=info_parts info128
 clear hRow hQ hE0 hI0 hAt hKs
 go_enter Tryz.func38,Tryz.ntmps38
 go_wp2_with fail
 refine (HCH.out _).mono ?_
 rintro e w1 ⟨v0,rfl,hrow0,hB0⟩
 go_wp2_with fail
 go_loopw [6,7,8] (fun lv tv iv wr=>TkL w.heap.size Ls R w lv tv iv wr) (fun _ _ iv _=>Ls.length - (intOf iv).toNat)
 case atStart=>exact ⟨0,xs,[],268435456,rfl,by omega,hrow0,Tkr.nil _ _,hB0,HR.out,HIN.out.1,HIN.out.2,⟨by simp,List.Pairwise.nil⟩,by simp,by omega,by omega⟩
 case round =>
  clear hrow0 hB0
  obtain ⟨k,ys,ts,K,rfl,hk,hrow,hTk,hB,hR,hE8,hI,hTI,ht3,hK1,hK2⟩:=hrel.ex
  clear hrel
  have hs1:=hB.size
  obtain ⟨ta,tc,rfl⟩:=hTk.len
  by_cases hkl:k<Ls.length
  ·have hkI:(k:Int)<(Ls.length:Int):=by omega
   obtain ⟨rfl,hgl⟩:=hga (by omega)
   have ht3I:¬ (300:Int)<(ts.length:Int):=by omega
   have hdrop:Ls.drop k=Ls[k] :: Ls.drop (k+1):=List.drop_eq_getElem_cons hkl
   obtain ⟨v1,v2,x,z,c0,c1,c2,c3,c4,hSt⟩:=HAT.out k hkl
   have hKst:=HKS.out _ (List.getElem_mem hkl)
   obtain ⟨sp,hsp⟩:∃ sp,Ls[k]=sp:=⟨_,rfl⟩
   rw [hsp] at hdrop c0 hSt hKst
   have hR2:=hR
   rw [hdrop,Pl.runT] at hR2
   have hKw:=hKst.w
   obtain ⟨wa,wc,gw,rfl,hX,hwa,hgw⟩:=row_tx hSt.r1
   obtain ⟨pa,pc,gp,rfl,hP,hpa,hgp⟩:=row_pr hSt.r2
   obtain rfl:=hSt.hx
   obtain rfl:=hSt.hz
   have kc:∀ j u,w.cell? ⟨g,j,none⟩=some u→wr.cell? ⟨g,j,none⟩=some u:=fun j u h=>(hB.cell (p:=⟨g,j,none⟩) hgl).trans h
   replace c0:=kc _ _ c0
   replace c1:=kc _ _ c1
   replace c2:=kc _ _ c2
   replace c3:=kc _ _ c3
   replace c4:=kc _ _ c4
   clear kc hR
   obtain ⟨la,lc,lg,rfl,hC,hla,hlg⟩:=row_cr hrow
   have hyl:ys.length≤268435456:=Nat.le_trans (Nat.le_mul_of_pos_right _ (Nat.pow_pos (by omega))) hE8
   rcases hKst.ex with ⟨i,hi,hnm⟩ | ⟨i,hi,hnm,hlo⟩
   ·have hi6:i<6:=hi
    obtain rfl | rfl | rfl | h3:i=0∨i=1∨i=2∨3≤i:=by omega
    ·rw [show Pl.stp sp.nm=⟨#[116,97,103,115]⟩ from by rw [hnm];exact (by decide +kernel:Pl.stp ⟨#[116,97,103,115]⟩=⟨#[116,97,103,115]⟩)] at c0
     have hiS:Pl.iS sp.nm=0:=by rw [hnm];exact Pl.iS_at 0 hi
     obtain ⟨zs,hzs⟩:∃ zs,Pl.eaS sp ys=zs:=⟨_,rfl⟩
     have hst:Pl.stT sp (ys,ts)=(zs,ts):=by unfold Pl.stT;rw [if_pos (by omega),hzs]
     have hinv:Pl.Inv (fun _=>True) zs:=by rw [← hzs];exact Pl.eaK_inv hI _ sp hKw
     have hlen:zs.length≤8*ys.length:=by rw [← hzs];exact Pl.eaK_len _ sp hKw ys
     have hee:zs=Pl.tgs ys ys.length 0:=by rw [← hzs];unfold Pl.eaS;rw [hiS];rfl
     rw [hst,if_pos ht3] at hR2
     have hec2:zs.length*8 ^ Pl.ec (Ls.drop (k+1))≤268435456:=by
      have e:Pl.ec (Ls.drop k)=Pl.ec (Ls.drop (k+1))+1:=by rw [hdrop,Pl.ec,if_pos (by omega)];omega
      rw [e,Nat.pow_succ] at hE8
      exact Nat.le_trans (Nat.mul_le_mul_right _ hlen) (by rw [Nat.mul_comm 8 ys.length,Nat.mul_assoc,Nat.mul_comm 8 (8 ^ _)];exact hE8)
     have HN:Hid (Pl.runT (Ls.drop (k+1)) (zs,ts)=R∧zs.length*8 ^ Pl.ec (Ls.drop (k+1))≤268435456∧Pl.Inv (fun _=>True) zs):=⟨hR2,hec2,hinv⟩
     have HCL:Hid (∀ W,Below wr.heap.size wr W→Calls Tryz.prog 76 #[.slice la ys.length lc] W fun e w'=>∃ v,e=.returned v∧w'.ownsRow W.heap.size 283 3 v zs.length (zs.flatMap enc)∧Below W.heap.size W w'):=fun W hW=>by
      rw [hee]
      exact rtags_any lg lc ys la W (hC.below hW hlg) hla (fun h=>by have:=hlg h;have:=hW.size;omega) hyl
     clear hst hinv hlen hee hR2 hec2 hzs hE8
     go_wp2_with fail
     refine (HCL.out _ (((Below.refl _ wr).alloc (Nat.le_refl _) _))).mono ?_
     rintro e w2 ⟨v',rfl,hrow2,hB2⟩
     have hs2:=hB2.size
     rw [World.size_alloc] at hs2 hB2 hrow2
     have hBw:Below wr.heap.size wr w2:=(((Below.refl _ wr).alloc (Nat.le_refl _) _)).trans (hB2.mono (by omega))
     have hBB:Below w.heap.size w w2:=hB.trans (hBw.mono hs1)
     have hTk2:=hTk.below hBw
     go_wp2_with fail
     exact ⟨⟨k+1,zs,ts,K,by go_num,by omega,ownsRow_low hrow2 (by omega),hTk2,hBB,HN.out.1,HN.out.2.1,HN.out.2.2,hTI,ht3,hK1,by omega⟩,by simp [intOf];omega⟩
    ·rw [show Pl.stp sp.nm=⟨#[102,111,108,100]⟩ from by rw [hnm];exact (by decide +kernel:Pl.stp ⟨#[102,111,108,100]⟩=⟨#[102,111,108,100]⟩)] at c0
     have hiS:Pl.iS sp.nm=1:=by rw [hnm];exact Pl.iS_at 1 hi
     obtain ⟨zs,hzs⟩:∃ zs,Pl.eaS sp ys=zs:=⟨_,rfl⟩
     have hst:Pl.stT sp (ys,ts)=(zs,ts):=by unfold Pl.stT;rw [if_pos (by omega),hzs]
     have hinv:Pl.Inv (fun _=>True) zs:=by rw [← hzs];exact Pl.eaK_inv hI _ sp hKw
     have hlen:zs.length≤8*ys.length:=by rw [← hzs];exact Pl.eaK_len _ sp hKw ys
     have hee:zs=ys.flatMap Pl.fdC:=by rw [← hzs];unfold Pl.eaS;rw [hiS];rfl
     rw [hst,if_pos ht3] at hR2
     have hec2:zs.length*8 ^ Pl.ec (Ls.drop (k+1))≤268435456:=by
      have e:Pl.ec (Ls.drop k)=Pl.ec (Ls.drop (k+1))+1:=by rw [hdrop,Pl.ec,if_pos (by omega)];omega
      rw [e,Nat.pow_succ] at hE8
      exact Nat.le_trans (Nat.mul_le_mul_right _ hlen) (by rw [Nat.mul_comm 8 ys.length,Nat.mul_assoc,Nat.mul_comm 8 (8 ^ _)];exact hE8)
     have HN:Hid (Pl.runT (Ls.drop (k+1)) (zs,ts)=R∧zs.length*8 ^ Pl.ec (Ls.drop (k+1))≤268435456∧Pl.Inv (fun _=>True) zs):=⟨hR2,hec2,hinv⟩
     have HCL:Hid (∀ W,Below wr.heap.size wr W→Calls Tryz.prog 77 #[.slice la ys.length lc] W fun e w'=>∃ v,e=.returned v∧w'.ownsRow W.heap.size 283 3 v zs.length (zs.flatMap enc)∧Below W.heap.size W w'):=fun W hW=>by
      rw [hee]
      exact rfold_any lg lc ys la W (hC.below hW hlg) hla (fun h=>by have:=hlg h;have:=hW.size;omega) hyl
     clear hst hinv hlen hee hR2 hec2 hzs hE8
     go_wp2_with fail
     refine (HCL.out _ (((Below.refl _ wr).alloc (Nat.le_refl _) _))).mono ?_
     rintro e w2 ⟨v',rfl,hrow2,hB2⟩
     have hs2:=hB2.size
     rw [World.size_alloc] at hs2 hB2 hrow2
     have hBw:Below wr.heap.size wr w2:=(((Below.refl _ wr).alloc (Nat.le_refl _) _)).trans (hB2.mono (by omega))
     have hBB:Below w.heap.size w w2:=hB.trans (hBw.mono hs1)
     have hTk2:=hTk.below hBw
     go_wp2_with fail
     exact ⟨⟨k+1,zs,ts,K,by go_num,by omega,ownsRow_low hrow2 (by omega),hTk2,hBB,HN.out.1,HN.out.2.1,HN.out.2.2,hTI,ht3,hK1,by omega⟩,by simp [intOf];omega⟩
    ·rw [show Pl.stp sp.nm=⟨#[109,97,112]⟩ from by rw [hnm];exact (by decide +kernel:Pl.stp ⟨#[109,97,112,40]⟩=⟨#[109,97,112]⟩)] at c0
     have hiS:Pl.iS sp.nm=2:=by rw [hnm];exact Pl.iS_at 2 hi
     obtain ⟨zs,hzs⟩:∃ zs,Pl.eaS sp ys=zs:=⟨_,rfl⟩
     have hst:Pl.stT sp (ys,ts)=(zs,ts):=by unfold Pl.stT;rw [if_pos (by omega),hzs]
     have hinv:Pl.Inv (fun _=>True) zs:=by rw [← hzs];exact Pl.eaK_inv hI _ sp hKw
     have hlen:zs.length≤8*ys.length:=by rw [← hzs];exact Pl.eaK_len _ sp hKw ys
     have hee:zs=Pl.exs sp.ps ys ys.length 0:=by rw [← hzs];unfold Pl.eaS;rw [hiS];rfl
     rw [hst,if_pos ht3] at hR2
     have hec2:zs.length*8 ^ Pl.ec (Ls.drop (k+1))≤268435456:=by
      have e:Pl.ec (Ls.drop k)=Pl.ec (Ls.drop (k+1))+1:=by rw [hdrop,Pl.ec,if_pos (by omega)];omega
      rw [e,Nat.pow_succ] at hE8
      exact Nat.le_trans (Nat.mul_le_mul_right _ hlen) (by rw [Nat.mul_comm 8 ys.length,Nat.mul_assoc,Nat.mul_comm 8 (8 ^ _)];exact hE8)
     have HN:Hid (Pl.runT (Ls.drop (k+1)) (zs,ts)=R∧zs.length*8 ^ Pl.ec (Ls.drop (k+1))≤268435456∧Pl.Inv (fun _=>True) zs):=⟨hR2,hec2,hinv⟩
     have HCL:Hid (∀ W,Below wr.heap.size wr W→Calls Tryz.prog 78 #[.slice la ys.length lc,.slice pa sp.ps.length pc] W fun e w'=>∃ v,e=.returned v∧w'.ownsRow W.heap.size 283 3 v zs.length (zs.flatMap enc)∧Below W.heap.size W w'):=fun W hW=>by
      rw [hee]
      exact rswap_any lg lc ys la pa gp pc sp.ps W (hC.below hW hlg) hla (fun h=>by have:=hlg h;have:=hW.size;omega) hyl hpa (fun h=>by have:=hgp h;have:=hW.size;omega) (hP.below (hB.trans (hW.mono hs1)) hgp) (fun p hp=>⟨(hKw.pa p hp).2.2.1,hKst.p8 p hp,(hKw.pa p hp).2.1,(hKw.pa p hp).2.2.2.2⟩) hKw.pl
     clear hst hinv hlen hee hR2 hec2 hzs hE8
     go_wp2_with fail
     refine (HCL.out _ (((Below.refl _ wr).alloc (Nat.le_refl _) _))).mono ?_
     rintro e w2 ⟨v',rfl,hrow2,hB2⟩
     have hs2:=hB2.size
     rw [World.size_alloc] at hs2 hB2 hrow2
     have hBw:Below wr.heap.size wr w2:=(((Below.refl _ wr).alloc (Nat.le_refl _) _)).trans (hB2.mono (by omega))
     have hBB:Below w.heap.size w w2:=hB.trans (hBw.mono hs1)
     have hTk2:=hTk.below hBw
     go_wp2_with fail
     exact ⟨⟨k+1,zs,ts,K,by go_num,by omega,ownsRow_low hrow2 (by omega),hTk2,hBB,HN.out.1,HN.out.2.1,HN.out.2.2,hTI,ht3,hK1,by omega⟩,by simp [intOf];omega⟩
    ·obtain ⟨nm,hn2⟩:∃ nm,Pl.stp sp.nm=nm:=⟨_,rfl⟩
     have hcn:=cut_names i hi h3
     rw [getD_get hi,← hnm,hn2] at hcn
     obtain ⟨q1,q2,q3,q4⟩:=hcn
     have hiS:Pl.iS sp.nm=i:=by rw [hnm];exact Pl.iS_at i hi
     obtain ⟨us,hus⟩:∃ us,Pl.cutC sp ys=us:=⟨_,rfl⟩
     have hst:Pl.stT sp (ys,ts)=(ys,us):=by unfold Pl.stT;rw [if_neg (by omega),if_pos (by omega),hus]
     have hcC:Pl.toksC ys 0 (Pl.pcs i ys)=us:=by rw [← hus];unfold Pl.cutC;rw [hiS]
     have hnj:(i=3∧nm=⟨#[119,111,114,100,115]⟩)∨(i=4∧nm=⟨#[98,108,97,110,107,115]⟩)∨(i=5∧nm=⟨#[119,104,111,108,101]⟩):=by
      rw [← hn2,hnm]
      obtain rfl | rfl | rfl:i=3∨i=4∨i=5:=by omega
      ·exact .inl ⟨rfl,(by decide +kernel:Pl.stp ⟨#[119,111,114,100,115]⟩=⟨#[119,111,114,100,115]⟩)⟩
      ·exact .inr (.inl ⟨rfl,(by decide +kernel:Pl.stp ⟨#[98,108,97,110,107,115]⟩=⟨#[98,108,97,110,107,115]⟩)⟩)
      ·exact .inr (.inr ⟨rfl,(by decide +kernel:Pl.stp ⟨#[119,104,111,108,101]⟩=⟨#[119,104,111,108,101]⟩)⟩)
     rw [hst] at hR2
     have hTI2:Pl.TkI (fun _=>True) K us:=by rw [← hus];exact Pl.cutC_inv hI sp K (Nat.le_trans hyl hK1)
     have hec2:ys.length*8 ^ Pl.ec (Ls.drop (k+1))≤268435456:=by
      have e:Pl.ec (Ls.drop k)=Pl.ec (Ls.drop (k+1)):=by rw [hdrop,Pl.ec,if_neg (by omega)];omega
      rw [← e];exact hE8
     rw [hn2] at c0
     have HCT:Hid (∀ w,Calls Tryz.prog 73 #[.string nm] w fun e w'=>e=.returned (.bool true)∧w'=w):=fun w=>by rw [← q4];exact cutter_any nm w
     have HCL:Hid (∀ W,Below wr.heap.size wr W→Calls Tryz.prog 79 #[.string nm,.slice la ys.length lc] W fun e w'=>∃ v,e=.returned v∧Tkr W.heap.size v us w'∧Below W.heap.size W w'):=fun W hW=>by
      rw [← hcC]
      exact rcut_any lg lc ys la i nm hnj W (hC.below hW hlg) hla (fun h=>by have:=hlg h;have:=hW.size;omega) hyl
     have HN:Hid ((if us.length≤300 then Pl.runT (Ls.drop (k+1)) (ys,us) else none)=R∧ys.length*8 ^ Pl.ec (Ls.drop (k+1))≤268435456∧Pl.Inv (fun _=>True) ys):=⟨hR2,hec2,hI⟩
     clear hst hcC hR2 hec2 hus hE8 hnj q4 hn2 hTk
     go_wp2_with (go_at_call 73;refine (HCT.out _).mono ?_;rintro e w' ⟨rfl,hw⟩;rw [hw];clear hw w')
     refine (HCL.out _ (((Below.refl _ wr).alloc (Nat.le_refl _) _))).mono ?_
     rintro e w2 ⟨v',rfl,hTk2,hB2⟩
     have hs2:=hB2.size
     rw [World.size_alloc] at hs2 hB2 hTk2
     have hBw:Below wr.heap.size wr w2:=(((Below.refl _ wr).alloc (Nat.le_refl _) _)).trans (hB2.mono (by omega))
     have hBB:Below w.heap.size w w2:=hB.trans (hBw.mono hs1)
     have hrow2:=ownsRow_below hrow hBw
     obtain ⟨ua,uc,rfl⟩:=hTk2.len
     by_cases hb:us.length≤300
     ·have hbI:¬ (300:Int)<(us.length:Int):=by omega
      have hn1:=HN.out.1
      rw [if_pos hb] at hn1
      have HN1:Hid (Pl.runT (Ls.drop (k+1)) (ys,us)=R):=hn1
      clear hn1
      go_wp2_with fail
      exact ⟨⟨k+1,ys,us,K,by go_num,by omega,hrow2,hTk2.base (by omega),hBB,HN1.out,HN.out.2.1,HN.out.2.2,hTI2,hb,hK1,by omega⟩,by simp [intOf];omega⟩
     ·have hbI:(300:Int)<(us.length:Int):=by omega
      have hn1:R=none:=by have:=HN.out.1;rw [if_neg hb] at this;exact this.symm
      subst hn1
      clear HN
      go_wp2_with fail
      go_ret2
      exact ⟨⟨.inr ⟨rfl,rfl⟩⟩,hBB⟩
   ·obtain ⟨nm,hn2⟩:∃ nm,Pl.stp sp.nm=nm:=⟨_,rfl⟩
    have hcn:=late_names i hi
    rw [getD_get hi,← hnm,hn2] at hcn
    obtain ⟨q1,q2,q3,q4⟩:=hcn
    have hiS:Pl.iS sp.nm=6:=by rw [hnm];exact Pl.iS_late i hi
    obtain ⟨fin,hfin⟩:∃ fin,Pl.lgC sp ts=fin:=⟨_,rfl⟩
    have hst:Pl.stT sp (ys,ts)=(ys,fin):=by unfold Pl.stT;rw [if_neg (by omega),if_neg (by omega),hfin]
    rw [hst] at hR2
    have hTI2:Pl.TkI (fun _=>True) (K+8) fin:=by rw [← hfin];exact Pl.lgC_inv hTI sp hKw
    have hec2:ys.length*8 ^ Pl.ec (Ls.drop (k+1))≤268435456:=by
     have e:Pl.ec (Ls.drop k)=Pl.ec (Ls.drop (k+1)):=by rw [hdrop,Pl.ec,if_neg (by omega)];omega
     rw [← e];exact hE8
    rw [hn2] at c0
    have HCT:Hid (∀ w,Calls Tryz.prog 73 #[.string nm] w fun e w'=>e=.returned (.bool false)∧w'=w):=fun w=>by rw [← q4];exact cutter_any nm w
    have HN:Hid ((if fin.length≤300 then Pl.runT (Ls.drop (k+1)) (ys,fin) else none)=R∧ys.length*8 ^ Pl.ec (Ls.drop (k+1))≤268435456∧Pl.Inv (fun _=>True) ys):=⟨hR2,hec2,hI⟩
    have HFI:Hid (([]:List Pl.Tc)++Pl.lgC sp (ts.drop 0)=fin):=hfin
    have HCG:Hid (∀ (W:World) (cs:List Nat) (sv:Value) (pos F T:Nat),Below w.heap.size w W→CoR W sv cs→(∀ c∈cs,Pl.okc c)→cs.length≤300000000→Calls Tryz.prog 80 #[.agg #[sv,.int .i64 (pos:Int),.int .i64 (F:Int),.int .i64 (T:Int)],.agg #[.string nm,.slice wa sp.ws.length wc,.slice pa sp.ps.length pc,.int .i64 (sp.lo:Int),.int .i64 (sp.hi:Int)]] W fun e w'=>∃ v,e=.returned v∧Tkr W.heap.size v ((Pl.laS sp cs).map fun u=>(u,pos,F,T)) w'∧Below W.heap.size W w'):=fun W cs sv pos F T hW hco hok hl=>by
     rw [← hn2]
     exact rchanged_any i hi sp hnm hKw hlo _ _ b2 _ _ W (hSt.keep fun g cur t _ _ e=>(hW.block g (Array.getElem?_eq_some_iff.1 e).1).trans e) cs sv pos F T hco hok hl
    have HTI:Hid (∀ t∈ts,(∀ c∈t.1,Pl.okc c)∧t.1.length≤300000000):=fun t ht=>⟨(hTI.ok t ht).1,by have:=(hTI.ok t ht).2.2.1;omega⟩
    have HLN:Hid (∀ cs:List Nat,cs.length≤300000000→(Pl.laS sp cs).length≤2700001001):=fun cs hcs=>by
     have:=Pl.laK_len (Pl.iL sp.nm) sp hKw cs
     unfold Pl.laS
     omega
    clear hst hR2 hec2 hfin hE8 q4 hn2 hTI
    have hX0:Blk wr.heap.size 207 #[.string nm,.slice wa sp.ws.length wc,.slice pa sp.ps.length pc,.int .i64 (sp.lo:Int),.int .i64 (sp.hi:Int)] (wr.alloc (.cells #[.string nm,.slice wa sp.ws.length wc,.slice pa sp.ps.length pc,.int .i64 (sp.lo:Int),.int .i64 (sp.hi:Int)] 207)):=heap_alloc_new wr _
    have hBX:Below wr.heap.size wr (wr.alloc (.cells #[.string nm,.slice wa sp.ws.length wc,.slice pa sp.ps.length pc,.int .i64 (sp.lo:Int),.int .i64 (sp.hi:Int)] 207)):=(Below.refl _ wr).alloc (Nat.le_refl _) _
    obtain ⟨W0,hW0⟩:∃ W0,W0=wr:=⟨_,rfl⟩
    subst hW0
    go_wp2_with (go_at_call 73;refine (HCT.out _).mono ?_;rintro e w' ⟨rfl,hw⟩;rw [hw];clear hw w')
    go_loopw [10,11] (fun ov kv wr=>TkK W0 #[.string nm,.slice wa sp.ws.length wc,.slice pa sp.ps.length pc,.int .i64 (sp.lo:Int),.int .i64 (sp.hi:Int)] sp ts fin ov kv wr) (fun _ kv _=>ts.length - (intOf kv).toNat)
    case atStart=>exact ⟨0,[],rfl,by omega,by simp,HFI.out,Tkr.nil _ _,hX0,hBX⟩
    case round =>
     clear hX0 hBX HFI c0 c1 c2 c3 c4
     obtain ⟨q,pre,rfl,hq,hprl,hpf,hO,hXb,hBq⟩:=hrel.ex
     clear hrel
     obtain ⟨w1,hw1⟩:∃ w1,w1=wr:=⟨_,rfl⟩
     subst hw1
     have hsq:=hBq.size
     have hBw1:Below w.heap.size w w1:=hB.trans (hBq.mono hs1)
     by_cases hql:q<ts.length
     ·have hqI:(q:Int)<(ts.length:Int):=by omega
      obtain ⟨g2,cap2,sv,hv,hg2,hgl2,t0,t1,t2,t3,hco⟩:=(hTk.below hBq).at hql
      obtain ⟨rfl,rfl⟩:ta=some ⟨g2,0,none⟩∧tc=cap2:=by have:=Value.slice.inj hv;exact ⟨this.1,this.2.2⟩
      clear hv
      have hti:=HTI.out _ (List.getElem_mem hql)
      obtain ⟨⟨cs,pos,F,T⟩,htq⟩:∃ x,ts[q]=x:=⟨_,rfl⟩
      have hdt:ts.drop q=(cs,pos,F,T) :: ts.drop (q+1):=by rw [← htq];exact List.drop_eq_getElem_cons hql
      rw [htq] at t1 t2 t3 hco hti
      simp only at t1 t2 t3 hco hti
      obtain ⟨ca,cc,cg,rfl,_⟩:=hco.co
      obtain ⟨ms,hms⟩:∃ ms,((Pl.laS sp cs).map fun u=>(u,pos,F,T))=ms:=⟨_,rfl⟩
      have hml:ms.length≤2700001001:=by rw [← hms,List.length_map];exact HLN.out cs hti.2
      have hpf2:pre++(ms++Pl.lgC sp (ts.drop (q+1)))=fin:=by
       rw [hdt] at hpf
       rw [← hpf,← hms]
       rfl
      have HPF:Hid (pre++(ms++Pl.lgC sp (ts.drop (q+1)))=fin):=hpf2
      have HCA:Hid (∀ W,Below w1.heap.size w1 W→Calls Tryz.prog 80 #[.agg #[.slice ca cs.length cc,.int .i64 (pos:Int),.int .i64 (F:Int),.int .i64 (T:Int)],.agg #[.string nm,.slice wa sp.ws.length wc,.slice pa sp.ps.length pc,.int .i64 (sp.lo:Int),.int .i64 (sp.hi:Int)]] W fun e w'=>∃ v,e=.returned v∧Tkr W.heap.size v ms w'∧Below W.heap.size W w'):=fun W hW=>by
       rw [← hms]
       exact HCG.out W cs _ pos F T (hBw1.trans (hW.mono hBw1.size)) (hco.kp (Kp.of_below hW (Nat.le_refl _))) hti.1 hti.2
      clear hpf hpf2 hdt htq hms
      obtain ⟨x0,x1,x2,x3,x4,xf⟩:=hXb.five
      have hXl:=hXb.lt
      go_wp2_with fail
      go_region_held3 (fun w'=>w'.cell? ⟨g2,q*4,none⟩=some (.slice ca cs.length cc)∧w'.cell? ⟨g2,q*4+1,none⟩=some (.int .i64 (pos:Int))∧w'.cell? ⟨g2,q*4+2,none⟩=some (.int .i64 (F:Int))∧w'.cell? ⟨g2,q*4+3,none⟩=some (.int .i64 (T:Int))∧w'.cell? ⟨W0.heap.size,0,none⟩=some (.string nm)∧w'.cell? ⟨W0.heap.size,1,none⟩=some (.slice wa sp.ws.length wc)∧w'.cell? ⟨W0.heap.size,2,none⟩=some (.slice pa sp.ps.length pc)∧w'.cell? ⟨W0.heap.size,3,none⟩=some (.int .i64 (sp.lo:Int))∧w'.cell? ⟨W0.heap.size,4,none⟩=some (.int .i64 (sp.hi:Int))) (first | exact ⟨y0,y1,y2,y3,z0,z1,z2,z3,z4⟩ | go_keep) ((go_at_call 80;refine (HCA.out _ (Below.refl _ w1).drew).mono ?_;rintro e w3 ⟨mv,rfl,hM,hB3⟩;have hB13:Below w1.heap.size w1 w3:=(Below.refl _ w1).drew.trans hB3;obtain ⟨z0,z1,z2,z3,z4,zf⟩:=(hXb.below hB13).five;have y0:=(hB13.cell (p:=⟨g2,q*4,none⟩) hgl2).trans t0;have y1:=(hB13.cell (p:=⟨g2,q*4+1,none⟩) hgl2).trans t1;have y2:=(hB13.cell (p:=⟨g2,q*4+2,none⟩) hgl2).trans t2;have y3:=(hB13.cell (p:=⟨g2,q*4+3,none⟩) hgl2).trans t3))
      have hO3:=hO.below hB13
      have hs3:=hB13.size
      have hX3:=hXb.below hB13
      obtain ⟨us,hus,hrowO,hcoO⟩:=hO3.r
      obtain ⟨ums,hums,hrowM,hcoM⟩:=hM.r
      obtain ⟨ma,mc,rfl⟩:=hM.len
      obtain ⟨o3,ho3⟩:=own_of hrowO
      have ho3l:∀ x,o3=some x→W0.heap.size+1≤x∧x<w1.heap.size:=fun x e=>by
       obtain ⟨us1,_,hrow1,_⟩:=hO.r
       rw [← ho3] at e
       have:=ownBlock_lt hrow1 e
       omega
      clear hco t0 t1 t2 t3 x0 x1 x2 x3 x4 xf y0 y1 y2 y3 z0 z1 z2 z3 z4 zf HCA hO
      go_wp2_with fail
      go_loopw [10,13] (fun ov jv wr=>TkJ W0 w3 o3 pre ms ov jv wr) (fun _ jv _=>ms.length - (intOf jv).toNat)
      case atStart=>exact ⟨0,rfl,by omega,by simpa using hO3,World.grownBy.refl _ _,.inl ho3⟩
      case round =>
       obtain ⟨j,rfl,hj,hO4,hgr,hcl⟩:=hrel.ex
       clear hrel
       obtain ⟨w4,hw4⟩:∃ w4,w4=wr:=⟨_,rfl⟩
       subst hw4
       have hs4:=hgr.size
       have hBw3:Below W0.heap.size W0 w3:=hBq.trans (hB13.mono hsq)
       have hBW4:Below W0.heap.size W0 w4:=Below.grown hBw3 hgr (by omega) (fun x e=>by have:=ho3l x e;omega)
       have hB4:Below w.heap.size w w4:=hB.trans (hBW4.mono hs1)
       by_cases hjl:j<ms.length
       ·have hjI:(j:Int)<(ms.length:Int):=by omega
        have hrowM4:=hrowM.kept hgr (by
         by_cases hn:(Value.slice ma ms.length mc).ownBlock=none
         ·exact .inl hn
         ·refine .inr fun e=>?_
          obtain ⟨gm,hgm⟩:=Option.ne_none_iff_exists'.1 hn
          have h1:=(ownBlock_lt hrowM hgm).2
          have h2:=ho3l gm (by rw [← e];exact hgm)
          rw [show w1.drew.heap.size=w1.heap.size from rfl] at h1
          omega)
        have hKp:Kp w3 w4:=Kp.of_grown hrowO (by decide) (by rw [ho3];exact hgr)
        have hM4:Tkr w1.drew.heap.size (.slice ma ms.length mc) ms w4:=⟨ums,hums,hrowM4,fun u hu=>(hcoM u hu).kp hKp⟩
        obtain ⟨gm,capm,jv,hv,_,hgml,m0,m1,m2,m3,hcoj⟩:=hM4.at hjl
        obtain ⟨rfl,rfl⟩:ma=some ⟨gm,0,none⟩∧mc=capm:=by have:=Value.slice.inj hv;exact ⟨this.1,this.2.2⟩
        clear hv
        obtain ⟨⟨jcs,jp,jF,jT⟩,hmj⟩:∃ x,ms[j]=x:=⟨_,rfl⟩
        have HT:Hid (ms.take (j+1)=ms.take j++[(jcs,jp,jF,jT)]):=by show _=_;rw [List.take_succ_eq_append_getElem hjl,hmj]
        rw [hmj] at m1 m2 m3 hcoj
        simp only at m1 m2 m3 hcoj
        obtain ⟨ja,jc,jg,rfl,_⟩:=hcoj.co
        obtain ⟨jn,hjn⟩:∃ n,jcs.length=n:=⟨_,rfl⟩
        rw [hjn] at m0 hcoj
        obtain ⟨us4,hus4,hrow4,hco4⟩:=hO4.r
        have hul4:us4.length≤900000000000:=by
         have h1:=congrArg List.length hus4
         rw [List.length_map,List.length_append,List.length_take] at h1
         have h2:q*2700001001≤300*2700001001:=Nat.mul_le_mul_right _ (by omega)
         omega
        clear hmj hM4 hO4 hrowM4
        go_wp2_with (at_builtin;go_must (refine wpList_append_lies _ (by rfl) _ _ 28 (by rfl) (W0.heap.size+1) 128 i0 (.agg #[.slice none 0 0,.int .i64 0,.int .i64 0,.int .i64 0]) 4 48 Tryz.underlying28 hi128 hz0 hz1 hz2 rfl (by decide) _ us4.length (us4.flatMap enc4) (by rfl) (hrow4.alloc _) ⟨w4.heap.size,0,none⟩ 1 1 (enc4 (.slice ja jn jc,jcs,jp,jF,jT)) (by rfl) rfl (World.news_of_block (heap_alloc_new w4 _)) (by simp [enc4,Value.oneCell']) (by decide) (by unfold maxLen;omega) (by omega) (by simp;omega) (w4.heap.size+1) (by simp) ?_);intro gn capn w5 hown1 hgrow hat hlt1;have hK5:Kp w4 w5:=(Kp.alloc w4 _).trans (Kp.of_grown (hrow4.alloc _) (by decide) hgrow))
        refine ⟨⟨j+1,by go_num,by omega,⟨us4++[(.slice ja jn jc,jcs,jp,jF,jT)],by rw [HT.out];simp [hus4],?_,?_⟩,?_,?_⟩,by simp [intOf];omega⟩
        ·rw [enc4_snoc,List.length_append]
         exact hown1
        ·intro u hu
         rcases List.mem_append.1 hu with hu | hu
         ·exact (hco4 u hu).kp hK5
         ·obtain rfl:=List.mem_singleton.1 hu
          exact hcoj.kp hK5
        ·rcases hcl with h | h
         ·rw [h] at hgrow;exact grown_trans (grown_alloc hgr _) hgrow
         ·exact grown_own (grown_alloc hgr _) hgrow h
        ·rcases hat with h | h
         ·rcases hcl with h' | h'
          ·left;rw [← h',h];rfl
          ·right;intro x hx;exact h' x (by rw [h];exact hx)
         ·right;intro x hx
          have:x=gn:=by simpa [Value.ownBlock] using hx.symm
          omega
       ·have hjI:¬ (j:Int)<(ms.length:Int):=by omega
        obtain rfl:j=ms.length:=by omega
        rw [List.take_length] at hO4
        have hX4:=hX3.keep hgr (fun e=>by have:=ho3l _ e;omega)
        go_wp2_with fail
        exact ⟨⟨q+1,pre++ms,by go_num,by omega,by rw [List.length_append];omega,by rw [← HPF.out];simp,hO4,hX4,hBW4⟩,by simp [intOf];omega⟩
     ·have hqI:¬ (q:Int)<(ts.length:Int):=by omega
      have hpr:pre=fin:=by rw [List.drop_of_length_le (show ts.length≤q by omega)] at hpf;simpa [Pl.lgC] using hpf
      subst hpr
      obtain ⟨oa,oc,rfl⟩:=hO.len
      have hrow2:=ownsRow_below hrow hBq
      by_cases hb:pre.length≤300
      ·have hbI:¬ (300:Int)<(pre.length:Int):=by omega
       have hn1:=HN.out.1
       rw [if_pos hb] at hn1
       have HN1:Hid (Pl.runT (Ls.drop (k+1)) (ys,pre)=R):=hn1
       clear hn1
       go_wp2_with fail
       exact ⟨⟨k+1,ys,pre,K+8,by go_num,by omega,hrow2,hO.base (by omega),hBw1,HN1.out,HN.out.2.1,HN.out.2.2,hTI2,hb,by omega,by omega⟩,by simp [intOf];omega⟩
      ·have hbI:(300:Int)<(pre.length:Int):=by omega
       have hn1:R=none:=by have:=HN.out.1;rw [if_neg hb] at this;exact this.symm
       subst hn1
       clear HN
       go_wp2_with fail
       go_ret2
       exact ⟨⟨.inr ⟨rfl,rfl⟩⟩,hBw1⟩
  ·have hkI:¬ (k:Int)<(Ls.length:Int):=by omega
   have hRR:R=some ts:=by rw [← hR,List.drop_of_length_le (by omega),Pl.runT]
   subst hRR
   clear hR
   go_wp2_with fail
   go_ret2
   exact ⟨⟨.inl ⟨ts,_,rfl,rfl,hTk⟩⟩,hB⟩
end Go.Proofs.YtcmgclckknpecaaGreatDoor
