import Derived.Test.YtcmgclckknpecaaGreatDoorKav
import Derived.Test.YtcmgclckknpecaaGreatDoorKat
import Derived.Test.YtcmgclckknpecaaGreatDoorKas
namespace Go.Proofs.YtcmgclckknpecaaGreatDoor
open Go.RowKit Go.Shelf
def Asc (s:ByteArray):Prop:=∀ i (h:i<s.size),(s[i]).toNat<128
def Pl.bgF (f:Nat→Nat) (s:ByteArray):Nat→Nat→Bool
 | 0,_=>true
 | m+1,pos=>if pos<s.size then decide (f pos=Pl.bt s pos) && Pl.bgF f s m (pos+1) else true
def Pl.bgn (f:Nat→Nat) (n:Nat) (s:ByteArray):Bool:=decide (s.size≤n) && Pl.bgF f s s.size 0
theorem Pl.bgF_end (f:Nat→Nat) (s:ByteArray) (m pos:Nat) (h:¬ pos<s.size):Pl.bgF f s m pos=true:=by
 cases m with
 | zero=>rfl
 | succ m=>simp [Pl.bgF,h]
set_option maxRecDepth 100000 in
set_option maxHeartbeats 2000000 in
theorem beginWith_any (g o cap:Nat) (xs:List (Nat × Nat × Nat)) (s:ByteArray) (hA:Asc s) (w:World) (hC:Cr g o xs w) (hg:g<w.heap.size) :
  Calls Tryz.prog 363 #[.slice (some ⟨g,o,none⟩) xs.length cap,.string s] w fun e w'=>e=.returned (.bool (Pl.bgn (Pl.cdx xs) xs.length s))∧Below w.heap.size w w':=by
 by_cases hle:s.size≤xs.length
 ·have hleI:¬ (xs.length:Int)<(s.size:Int):=by omega
  obtain ⟨R,hR⟩:∃ R,Pl.bgF (Pl.cdx xs) s s.size 0=R:=⟨_,rfl⟩
  have HB:Hid (Pl.bgn (Pl.cdx xs) xs.length s=R):=by show _=_;unfold Pl.bgn;rw [hR];simp [hle]
  have HR:Hid (Pl.bgF (Pl.cdx xs) s s.size 0=R):=hR
  clear hR
  go_enter Tryz.func363,Tryz.ntmps363
  go_wp2
  go_loopw [] (fun wr=>∃ (pos fuel:Nat),wr.heap[w.heap.size]?=some (.stringIter s pos)∧Below w.heap.size w wr∧Hid (Pl.bgF (Pl.cdx xs) s fuel pos=R)∧s.size≤pos+fuel) (fun wr=>s.size - wr.iterPos w.heap.size)
  case atStart=>exact ⟨0,s.size,World.iter_heap w s 0,(Below.refl _ w).alloc (Nat.le_refl _) _,HR,by omega⟩
  case round =>
   obtain ⟨pos,fuel,hit,hB,HA,hfu⟩:=hrel
   by_cases hp:pos<s.size
   ·have hnx:∀ ty,(Instr.next (.pointer (some ⟨w.heap.size,0,none⟩)) true ty).run Tryz.prog wr=_:=fun ty=>Lib.run_next_any_at wr w.heap.size s pos ty hit hp
    rw [decode_ascii s pos hp (hA pos hp)] at hnx
    simp only at hnx
    have hit2:=Lib.iterAt_heap wr w.heap.size s pos (pos+1) hit
    have hB2:=Lib.below_iterAt hB (k:=w.heap.size) (Nat.le_refl _) s (pos+1)
    obtain ⟨f,rfl⟩:∃ f,fuel=f+1:=⟨fuel - 1,by omega⟩
    have hpx:pos<xs.length:=by omega
    have hpI:(pos:Int)<(xs.length:Int):=by omega
    have k0:=(hB2.cell (p:=⟨g,o+pos*3,none⟩) hg).trans (hC.code hpx)
    obtain ⟨d,hd⟩:∃ d,Pl.cdx xs pos=d:=⟨_,rfl⟩
    obtain ⟨b,hb⟩:∃ b,(s[pos]'hp).toNat=b:=⟨_,rfl⟩
    have hbl:=hA pos hp
    have hH:=HA.out
    simp only [Pl.bgF,if_pos hp] at hH
    rw [Pl.bt_eq hp,hd,hb] at hH
    rw [hd] at k0
    rw [hb] at hnx hbl
    obtain ⟨X,hX⟩:∃ X,wr.iterAt w.heap.size s (pos+1)=X:=⟨_,rfl⟩
    rw [hX] at hnx hit2 hB2 k0
    clear hd hb HA
    by_cases hdb:d=b
    ·subst hdb
     have HA2:Hid (Pl.bgF (Pl.cdx xs) s f (pos+1)=R):=(by simpa using hH:Pl.bgF (Pl.cdx xs) s f (pos+1)=R)
     clear hH
     go_wp2_with fail
     go_roundw
     case rel=>exact ⟨pos+1,f,hit2,hB2,HA2,by omega⟩
     case measure=>simp only [World.iterPos,hit2,hit];omega
    ·have HR2:Hid (R=false):=by show _=_;rw [← hH];simp [hdb]
     have hdbI:¬ (d:Int)=(b:Int):=by omega
     clear hH
     go_wp2_with fail
     go_ret
     exact ⟨ret_bool (by rw [HB.out,HR2.out]),hB2⟩
   ·have hnx:∀ ty,(Instr.next (.pointer (some ⟨w.heap.size,0,none⟩)) true ty).run Tryz.prog wr=_:=fun ty=>Lib.run_next_end_at wr w.heap.size s pos ty hit hp
    have HR2:Hid (R=true):=by have:=HA.out;rw [Pl.bgF_end _ _ _ _ hp] at this;exact this.symm
    clear HA
    go_wp2_with fail
    go_ret
    exact ⟨ret_bool (by rw [HB.out,HR2.out]),hB⟩
 ·have hleI:(xs.length:Int)<(s.size:Int):=by omega
  have HB:Hid (Pl.bgn (Pl.cdx xs) xs.length s=false):=by show _=_;unfold Pl.bgn;simp [hle]
  go_enter Tryz.func363,Tryz.ntmps363
  go_wp2
  go_ret
  exact ⟨ret_bool (by rw [HB.out]),Below.refl _ _⟩
end Go.Proofs.YtcmgclckknpecaaGreatDoor
namespace Go.Proofs.YtcmgclckknpecaaGreatDoor
open Go.RowKit Go.Shelf
structure Prw (g:Nat) (ps:List (ByteArray × ByteArray)) (w:World):Prop where
 c:∀ i (h:i<ps.length),w.cell? ⟨g,i*2,none⟩=some (.string (ps[i]).1)∧w.cell? ⟨g,i*2+1,none⟩=some (.string (ps[i]).2)
theorem Prw.below {g n0:Nat} {ps:List (ByteArray × ByteArray)} {w w':World} (h:Prw g ps w) (hb:Below n0 w w') (hg:0<ps.length→g<n0):Prw g ps w' :=
 ⟨fun i hi=>by
  have hg':=hg (by omega)
  have k:∀ j,w'.cell? ⟨g,j,none⟩=w.cell? ⟨g,j,none⟩:=fun j=>hb.cell (p:=⟨g,j,none⟩) hg'
  rw [k,k];exact h.c i hi⟩
def Pl.lgp (f:Nat→Nat) (n:Nat):ByteArray × ByteArray→List (ByteArray × ByteArray)→ByteArray × ByteArray
 | cur,[]=>cur
 | cur,p :: r=>Pl.lgp f n (if (decide (cur.1.size<p.1.size) && Pl.bgn f n p.1)=true then p else cur) r
theorem Blk.two {b:Nat} {t:TypeId} {v0 v1:Value} {W:World} (h:Blk b t #[v0,v1] W):(W.cell? ⟨b,0,none⟩=some v0∧W.cell? ⟨b,1,none⟩=some v1)∧(∀ o,W.frozen? ⟨b,o,none⟩=false):=by
 unfold Blk at h
 simp [World.cell?,World.frozen?,h]
theorem Blk.t0 {b:Nat} {t:TypeId} {v0 v1:Value} {W:World} (h:Blk b t #[v0,v1] W) (u:Value):Blk b t #[u,v1] (W.setCell ⟨b,0,none⟩ u):=heap_set W b 0 u _ t h
theorem Blk.t1 {b:Nat} {t:TypeId} {v0 v1:Value} {W:World} (h:Blk b t #[v0,v1] W) (u:Value):Blk b t #[v0,u] (W.setCell ⟨b,1,none⟩ u):=heap_set W b 1 u _ t h
theorem Blk.below {b:Nat} {t:TypeId} {cs:Array Value} {A B:World} (h:Blk b t cs A) (hb:Below A.heap.size A B):Blk b t cs B:=h.keep (grown_of_below none hb) (by simp)
theorem res228 {tmps:Array Value} {w:World} {b:Nat} {v0 v1:Value} (hp:tmps[4]?=some (.pointer (some ⟨b,0,none⟩))) (c0:w.cell? ⟨b,0,none⟩=some v0) (c1:w.cell? ⟨b,1,none⟩=some v1) :
  (results Tryz.f295 tmps).run Tryz.prog w=.ok (.agg #[v0,v1]) w:=by
 simp [results,Tryz.results295,go_sem,hp,c0,c1]
set_option maxRecDepth 100000 in
set_option maxHeartbeats 2000000 in
theorem longestPair_any (g o cap:Nat) (xs:List (Nat × Nat × Nat)) (ap:Option Addr) (gp capp:Nat) (ps:List (ByteArray × ByteArray)) (w:World) (hC:Cr g o xs w) (hg:g<w.heap.size) (hap:0<ps.length→ap=some ⟨gp,0,none⟩) (hgp:0<ps.length→gp<w.heap.size) (hP:Prw gp ps w) (hA:∀ p∈ps,Asc p.1) (hpl:ps.length≤1000) :
  Calls Tryz.prog 295 #[.slice (some ⟨g,o,none⟩) xs.length cap,.slice ap ps.length capp] w fun e w'=>e=.returned (.agg #[.string (Pl.lgp (Pl.cdx xs) xs.length (⟨#[]⟩,⟨#[]⟩) ps).1,.string (Pl.lgp (Pl.cdx xs) xs.length (⟨#[]⟩,⟨#[]⟩) ps).2])∧Below w.heap.size w w':=by
 obtain ⟨⟨L,R⟩,hLR⟩:∃ r,Pl.lgp (Pl.cdx xs) xs.length (⟨#[]⟩,⟨#[]⟩) ps=r:=⟨_,rfl⟩
 rw [hLR]
 have HLR:Hid (Pl.lgp (Pl.cdx xs) xs.length (⟨#[]⟩,⟨#[]⟩) ps=(L,R)):=hLR
 clear hLR
 have bR0:Blk w.heap.size 357 #[.string ⟨#[]⟩,.string ⟨#[]⟩] (w.alloc (.cells #[.string ⟨#[]⟩,.string ⟨#[]⟩] 357)):=heap_alloc_new w _
 have bR:=bR0.alloc (.cells #[.string ⟨#[]⟩,.string ⟨#[]⟩] 357)
 have bL:Blk (w.heap.size+1) 357 #[.string ⟨#[]⟩,.string ⟨#[]⟩] ((w.alloc (.cells #[.string ⟨#[]⟩,.string ⟨#[]⟩] 357)).alloc (.cells #[.string ⟨#[]⟩,.string ⟨#[]⟩] 357)):=by
  have:=heap_alloc_new (w.alloc (.cells #[.string ⟨#[]⟩,.string ⟨#[]⟩] 357)) (.cells #[.string ⟨#[]⟩,.string ⟨#[]⟩] 357)
  rw [World.size_alloc] at this;exact this
 have hB0:Below w.heap.size w ((w.alloc (.cells #[.string ⟨#[]⟩,.string ⟨#[]⟩] 357)).alloc (.cells #[.string ⟨#[]⟩,.string ⟨#[]⟩] 357)):=((Below.refl _ w).alloc (Nat.le_refl _) _).alloc (by simp) _
 go_enter Tryz.func295,Tryz.ntmps295
 go_wp2_with fail
 go_loopw [10] (fun i wr=>∃ (k:Nat) (l r:ByteArray),i=.int .i64 (k:Int)∧k≤ps.length∧Blk w.heap.size 357 #[.string ⟨#[]⟩,.string ⟨#[]⟩] wr∧Blk (w.heap.size+1) 357 #[.string l,.string r] wr∧Below w.heap.size w wr∧Hid (Pl.lgp (Pl.cdx xs) xs.length (l,r) (ps.drop k)=(L,R))) (fun i _=>ps.length - (intOf i).toNat)
 case atStart=>exact ⟨0,_,_,rfl,by omega,bR,bL,hB0,HLR⟩
 case round =>
  obtain ⟨k,l,r,rfl,hk,hR,hL,hB,HK⟩:=hrel
  clear bR0 bR bL hB0
  by_cases hlt:k<ps.length
  ·obtain rfl:=hap (by omega)
   have hltI:(k:Int)<(ps.length:Int):=by omega
   obtain ⟨p0,p1⟩:=(hP.below hB hgp).c k hlt
   have hAk:=hA _ (List.getElem_mem hlt)
   obtain ⟨⟨pl,pr⟩,hpk⟩:∃ x,ps[k]=x:=⟨_,rfl⟩
   have hd:ps.drop k=(pl,pr) :: ps.drop (k+1):=by rw [← hpk];exact List.drop_eq_getElem_cons hlt
   rw [hpk] at p0 p1 hAk
   simp only at p0 p1 hAk
   have hH:=HK.out
   rw [hd] at hH
   simp only [Pl.lgp] at hH
   obtain ⟨⟨l0,l1⟩,lf⟩:=hL.two
   have hs1:=hB.size
   have hsL:=hL.lt
   have hBA:Below w.heap.size w (wr.alloc (.cells #[.string pl,.string pr] 357)):=hB.alloc hs1 _
   obtain ⟨⟨m0,m1⟩,mf⟩:=(hL.alloc (.cells #[.string pl,.string pr] 357)).two
   clear hd hpk HK
   by_cases hsz:l.size<pl.size
   ·have hszI:(l.size:Int)<(pl.size:Int):=by omega
    have hbw:=fun W (hW:Below w.heap.size w W)=>beginWith_any g o cap xs pl hAk W (hC.below hW fun _=>hg) (by have:=hW.size;omega)
    obtain ⟨bb,hbb⟩:∃ b,Pl.bgn (Pl.cdx xs) xs.length pl=b:=⟨_,rfl⟩
    rw [hbb] at hbw hH
    have HBW:Hid (∀ W,Below w.heap.size w W→Calls Tryz.prog 363 #[.slice (some ⟨g,o,none⟩) xs.length cap,.string pl] W fun e w'=>e=.returned (.bool bb)∧Below W.heap.size W w'):=hbw
    clear hbw hbb
    cases bb with
    | true =>
     have HK2:Hid (Pl.lgp (Pl.cdx xs) xs.length (pl,pr) (ps.drop (k+1))=(L,R)):=by show _=_;simpa [hsz] using hH
     clear hH
     go_wp2_with (go_at_call 363;refine (HBW.out _ hBA).mono ?_;rintro e w2 ⟨rfl,h2⟩;have hB2:=hBA.trans (h2.mono (by simp;omega));have hL2:=(hL.alloc (.cells #[.string pl,.string pr] 357)).below h2;have hR2:=(hR.alloc (.cells #[.string pl,.string pr] 357)).below h2;have hN2:=(show Blk wr.heap.size 357 #[.string pl,.string pr] (wr.alloc (.cells #[.string pl,.string pr] 357)) from heap_alloc_new wr _).below h2;obtain ⟨⟨q0,q1⟩,qf⟩:=hL2.two;obtain ⟨⟨n0,n1⟩,nf⟩:=hN2.two)
     refine ⟨⟨k+1,pl,pr,by go_num,by omega,?_,?_,?_,HK2⟩,by simp [intOf];omega⟩
     ·exact (hR2.setO (by omega) 0 _).setO (by omega) 1 _
     ·exact (hL2.t0 _).t1 _
     ·exact (hB2.setCell (p:=⟨w.heap.size+1,0,none⟩) (by simp) _).setCell (p:=⟨w.heap.size+1,1,none⟩) (by simp) _
    | false =>
     have HK2:Hid (Pl.lgp (Pl.cdx xs) xs.length (l,r) (ps.drop (k+1))=(L,R)):=by show _=_;simpa using hH
     clear hH
     go_wp2_with (go_at_call 363;refine (HBW.out _ hBA).mono ?_;rintro e w2 ⟨rfl,h2⟩;have hB2:=hBA.trans (h2.mono (by simp;omega));have hL2:=(hL.alloc (.cells #[.string pl,.string pr] 357)).below h2;have hR2:=(hR.alloc (.cells #[.string pl,.string pr] 357)).below h2)
     exact ⟨⟨k+1,l,r,by go_num,by omega,hR2,hL2,hB2,HK2⟩,by simp [intOf];omega⟩
   ·have hszI:¬ (l.size:Int)<(pl.size:Int):=by omega
    have HK2:Hid (Pl.lgp (Pl.cdx xs) xs.length (l,r) (ps.drop (k+1))=(L,R)):=by show _=_;simpa [hsz] using hH
    clear hH
    go_wp2_with fail
    exact ⟨⟨k+1,l,r,by go_num,by omega,hR.alloc _,hL.alloc _,hBA,HK2⟩,by simp [intOf];omega⟩
  ·have hltI:¬ (k:Int)<(ps.length:Int):=by omega
   have hH:=HK.out
   rw [List.drop_of_length_le (by omega)] at hH
   simp only [Pl.lgp,Prod.mk.injEq] at hH
   obtain ⟨rfl,rfl⟩:=hH
   obtain ⟨⟨r0,r1⟩,rf⟩:=hR.two
   obtain ⟨⟨l0,l1⟩,lf⟩:=hL.two
   clear HK
   go_wp2_with fail
   obtain ⟨⟨e0,e1⟩,_⟩:=((hR.t0 (.string l)).t1 (.string r)).two
   exact bodyPost_ret (res228 rfl e0 e1) rfl ⟨rfl,(hB.setCell (p:=⟨w.heap.size,0,none⟩) (Nat.le_refl _) _).setCell (p:=⟨w.heap.size,1,none⟩) (Nat.le_refl _) _⟩
end Go.Proofs.YtcmgclckknpecaaGreatDoor
namespace Go.Proofs.YtcmgclckknpecaaGreatDoor
open Go.RowKit Go.Shelf
theorem Pl.lgp_le (f:Nat→Nat) (n:Nat):∀ (ps:List (ByteArray × ByteArray)) (cur:ByteArray × ByteArray),cur.1.size≤n→cur.2.size≤8→(∀ p∈ps,p.2.size≤8)→(Pl.lgp f n cur ps).1.size≤n∧(Pl.lgp f n cur ps).2.size≤8
 | [],cur,h1,h2,_=>⟨h1,h2⟩
 | p :: r,cur,h1,h2,h3=>by
  rw [Pl.lgp]
  have hr:∀ q∈r,q.2.size≤8:=fun q hq=>h3 q (List.mem_cons_of_mem _ hq)
  by_cases hc:(decide (cur.1.size<p.1.size) && Pl.bgn f n p.1)=true
  ·rw [if_pos hc]
   have hp:p.1.size≤n:=by
    simp only [Bool.and_eq_true,Pl.bgn,decide_eq_true_eq] at hc
    exact hc.2.1
   exact Pl.lgp_le f n r p hp (h3 p (List.mem_cons_self ..)) hr
  ·rw [if_neg hc]
   exact Pl.lgp_le f n r cur h1 h2 hr
def Pl.exAt (ps:List (ByteArray × ByteArray)) (xs:List (Nat × Nat × Nat)) (i:Nat):ByteArray × ByteArray:=Pl.lgp (Pl.cdx (xs.drop i)) (xs.drop i).length (⟨#[]⟩,⟨#[]⟩) ps
theorem Pl.exAt_le (ps:List (ByteArray × ByteArray)) (hp:∀ p∈ps,p.2.size≤8) (xs:List (Nat × Nat × Nat)) (i:Nat) (h:i≤xs.length):i+(Pl.exAt ps xs i).1.size≤xs.length∧(Pl.exAt ps xs i).2.size≤8:=by
 have:=Pl.lgp_le (Pl.cdx (xs.drop i)) (xs.drop i).length ps (⟨#[]⟩,⟨#[]⟩) (Nat.zero_le _) (Nat.zero_le _) hp
 unfold Pl.exAt
 rw [List.length_drop] at this ⊢
 omega
def Pl.exs (ps:List (ByteArray × ByteArray)) (xs:List (Nat × Nat × Nat)):Nat→Nat→List (Nat × Nat × Nat)
 | 0,_=>[]
 | m+1,i=>if h:i<xs.length then (if (Pl.exAt ps xs i).1.size=0 then xs[i] :: Pl.exs ps xs m (i+1) else Pl.lts (Pl.exAt ps xs i).2 (Pl.frx xs i) (Pl.tox xs (i+(Pl.exAt ps xs i).1.size - 1))++Pl.exs ps xs m (i+(Pl.exAt ps xs i).1.size)) else []
theorem Pl.exs_pass {ps:List (ByteArray × ByteArray)} {xs:List (Nat × Nat × Nat)} {m i:Nat} (h:i<xs.length) (hm:xs.length≤i+m) (h0:(Pl.exAt ps xs i).1.size=0):∃ m',xs.length≤i+1+m'∧Pl.exs ps xs m i=xs[i] :: Pl.exs ps xs m' (i+1):=by
 obtain ⟨m',rfl⟩:∃ m',m=m'+1:=⟨m - 1,by omega⟩
 exact ⟨m',by omega,by rw [Pl.exs,dif_pos h,if_pos h0]⟩
theorem Pl.exs_some {ps:List (ByteArray × ByteArray)} {xs:List (Nat × Nat × Nat)} {m i:Nat} (h:i<xs.length) (hm:xs.length≤i+m) (h0:(Pl.exAt ps xs i).1.size≠0):∃ m',xs.length≤i+(Pl.exAt ps xs i).1.size+m'∧Pl.exs ps xs m i=Pl.lts (Pl.exAt ps xs i).2 (Pl.frx xs i) (Pl.tox xs (i+(Pl.exAt ps xs i).1.size - 1))++Pl.exs ps xs m' (i+(Pl.exAt ps xs i).1.size):=by
 obtain ⟨m',rfl⟩:∃ m',m=m'+1:=⟨m - 1,by omega⟩
 exact ⟨m',by omega,by rw [Pl.exs,dif_pos h,if_neg h0]⟩
theorem Pl.exs_nil {ps:List (ByteArray × ByteArray)} {xs:List (Nat × Nat × Nat)} {m i:Nat} (h:¬ i<xs.length):Pl.exs ps xs m i=[]:=by
 cases m with
 | zero=>rfl
 | succ m=>rw [Pl.exs,dif_neg h]
theorem Pl.lts_le (s:ByteArray) (F T:Nat):(Pl.lts s F T).length≤s.size:=by
 have:=Pl.rns_length s s.size 0
 simp only [Pl.lts,List.length_map];omega
set_option maxRecDepth 100000 in
set_option maxHeartbeats 4000000 in
theorem exchange_any (g cap:Nat) (xs:List (Nat × Nat × Nat)) (a:Option Addr) (ap:Option Addr) (gp capp:Nat) (ps:List (ByteArray × ByteArray)) (w:World) (hC:Cr g 0 xs w) (ha:0<xs.length→a=some ⟨g,0,none⟩) (hg:0<xs.length→g<w.heap.size) (hcap:xs.length≤cap) (hl:xs.length≤268435456)
  (hap:0<ps.length→ap=some ⟨gp,0,none⟩) (hgp:0<ps.length→gp<w.heap.size) (hP:Prw gp ps w) (hA:∀ p∈ps,Asc p.1) (hp8:∀ p∈ps,p.2.size≤8) (hpl:ps.length≤1000) :
  Calls Tryz.prog 198 #[.slice a xs.length cap,.slice ap ps.length capp] w fun e w'=>∃ v,e=.returned v∧w'.ownsRow w.heap.size 38 3 v (Pl.exs ps xs xs.length 0).length ((Pl.exs ps xs xs.length 0).flatMap enc)∧Below w.heap.size w w':=by
 obtain ⟨i0,hi,hz0,hz1,hz2⟩:=info_parts info38
 obtain ⟨ys,hys⟩:∃ ys,Pl.exs ps xs xs.length 0=ys:=⟨_,rfl⟩
 rw [hys]
 have HYS:Hid (Pl.exs ps xs xs.length 0=ys):=hys
 clear hys
 go_enter Tryz.func198,Tryz.ntmps198
 go_wp2
 go_loopw [5,6] (fun l i wr=>∃ (k m:Nat) (pre:List (Nat × Nat × Nat)),i=.int .i64 (k:Int)∧k≤xs.length∧xs.length≤k+m∧Hid (pre++Pl.exs ps xs m k=ys)∧pre.length≤8*k ∧
  wr.ownsRow w.heap.size 38 3 l pre.length (pre.flatMap enc)∧Below w.heap.size w wr) (fun _ i _=>xs.length - (intOf i).toNat)
 case atStart=>exact ⟨0,xs.length,[],rfl,by omega,by omega,HYS,by simp,World.ownsRow_nil _ _ _ _,Below.refl _ _⟩
 case round =>
  obtain ⟨k,m,pre,rfl,hk,hkm,HX,hp8k,hrow,hB⟩:=hrel
  by_cases hlt:k<xs.length
  ·obtain rfl:=ha (by omega)
   have hg':=hg (by omega)
   have hltI:(k:Int)<(xs.length:Int):=by omega
   have hkI:(k:Int)≤(xs.length:Int):=by omega
   have hcI:(xs.length:Int)≤(cap:Int):=by omega
   have hCk:=hC.drop k
   rw [Nat.zero_add] at hCk
   have hdl:(xs.drop k).length=xs.length - k:=List.length_drop
   have hts:=fun W (hW:Below w.heap.size w W)=>longestPair_any g (k*3) (cap - k) (xs.drop k) ap gp capp ps W (hCk.below hW fun _=>hg') (by have:=hW.size;omega) hap (fun h=>by have:=hW.size;have:=hgp h;omega) (hP.below hW hgp) hA hpl
   obtain ⟨⟨pl,pr⟩,hz⟩:∃ z,Pl.exAt ps xs k=z:=⟨_,rfl⟩
   have hzl:=Pl.exAt_le ps hp8 xs k hk
   rw [hz] at hzl
   simp only at hzl
   rw [show Pl.lgp (Pl.cdx (xs.drop k)) (xs.drop k).length (⟨#[]⟩,⟨#[]⟩) ps=(pl,pr) from hz,hdl] at hts
   have HTS:Hid (∀ W,Below w.heap.size w W→Calls Tryz.prog 295 #[.slice (some ⟨g,k*3,none⟩) (xs.length - k) (cap - k),.slice ap ps.length capp] W fun e w'=>e=.returned (.agg #[.string pl,.string pr])∧Below W.heap.size W w'):=hts
   clear hts hCk hdl
   go_wp2_with fail
   refine (HTS.out _ hB).mono ?_
   rintro e w2' ⟨rfl,h2'⟩
   obtain ⟨w2,hw2⟩:∃ w2,w2'.alloc (.cells #[.string pl,.string pr] 357)=w2:=⟨_,rfl⟩
   have h2:Below wr.heap.size wr w2:=by rw [← hw2];exact h2'.alloc h2'.size _
   have hN:Blk w2'.heap.size 357 #[.string pl,.string pr] w2:=by rw [← hw2];exact heap_alloc_new w2' _
   obtain ⟨⟨n0,n1⟩,nf⟩:=hN.two
   have hs2w:w2.heap.size=w2'.heap.size+1:=by rw [← hw2];simp
   have hB2:Below w.heap.size w w2:=hB.trans (h2.mono hB.size)
   have hrow2:=ownsRow_below hrow h2
   have hs2:=h2.size
   have hs1:=hB.size
   clear HTS
   obtain ⟨z,hzz⟩:∃ z,pl.size=z:=⟨_,rfl⟩
   have hz':(Pl.exAt ps xs k).1.size=z:=by rw [hz];exact hzz
   rw [hzz] at hzl
   by_cases hz0':z=0
   ·subst hz0'
    obtain ⟨m',hm',hcs⟩:=Pl.exs_pass hlt hkm hz'
    obtain ⟨⟨c,f,t⟩,hx⟩:∃ x,xs[k]=x:=⟨_,rfl⟩
    obtain ⟨k0,k1,k2⟩:=(hC.below hB2 fun _=>hg').c k hlt
    rw [hx] at hcs k0 k1 k2
    rw [Nat.zero_add] at k0 k1 k2
    simp only at k0 k1 k2
    have HX2:Hid ((pre++[(c,f,t)])++Pl.exs ps xs m' (k+1)=ys):=by
     have:=HX.out;rw [hcs] at this;show _=_;rw [← this];simp
    have HNB:Hid ((w2.alloc (.cells #[.int .i64 (c:Int),.int .i64 (f:Int),.int .i64 (t:Int)] 38)).heap[w2'.heap.size+1]?=some (.cells #[.int .i64 (c:Int),.int .i64 (f:Int),.int .i64 (t:Int)] 38 (0,0))):=by rw [← hs2w];exact heap_alloc_new w2 _
    clear hcs hx hz HX hz'
    subst hw2
    have hzI:(pl.size:Int)=0:=by omega
    go_wp2_with (at_builtin;go_must (refine wpList_append_lies _ (by rfl) _ _ 34 (by rfl) w.heap.size 38 i0 (.agg #[.int .i64 0,.int .i64 0,.int .i64 0]) 3 24 Tryz.underlying34 hi hz0 hz1 hz2 rfl (by decide) _ pre.length (pre.flatMap enc) (by rfl) (hrow2.alloc _) ⟨w2'.heap.size+1,0,none⟩ 1 1 (enc (c,f,t)) (by rfl) rfl (World.news_of_block (HNB.out)) (enc_one _) (by decide) (by unfold maxLen;omega) (by omega) (by simp;omega) (w2'.heap.size+1+1) (by simp) ?_);intro gn capn w3 hown1 hgrow hat hlt1;have hB3:Below w.heap.size w w3:=Below.grown (hB2.alloc (by omega) _) hgrow (by simp;omega) fun j ej=>(ownBlock_lt hrow ej).2)
    refine ⟨⟨k+1,m',pre++[(c,f,t)],by go_num,by omega,hm',HX2,by simp;omega,?_,hB3⟩,by simp [intOf];omega⟩
    rw [enc_snoc,List.length_append]
    exact hown1
   ·obtain ⟨m',hm',hcs⟩:=Pl.exs_some hlt hkm (by rw [hz'];exact hz0')
    rw [hz'] at hm' hcs
    rw [hz] at hcs
    simp only at hcs
    obtain ⟨F,hF⟩:∃ F,Pl.frx xs k=F:=⟨_,rfl⟩
    obtain ⟨T,hT⟩:∃ T,Pl.tox xs (k+z - 1)=T:=⟨_,rfl⟩
    rw [hF,hT] at hcs
    have hCw:=hC.below hB2 fun _=>hg'
    have k1:=(hCw.c k hlt).2.1
    have k2:=(hCw.c (k+z - 1) (by omega)).2.2
    rw [show (xs[k]).2.1=F by rw [← hF];simp [Pl.frx,hlt],Nat.zero_add] at k1
    rw [show (xs[k+z - 1]'(by omega)).2.2=T by rw [← hT];simp [Pl.tox,show k+z - 1<xs.length by omega],Nat.zero_add] at k2
    have HX2:Hid ((pre++Pl.lts pr F T)++Pl.exs ps xs m' (k+z)=ys):=by
     have:=HX.out;rw [hcs] at this;show _=_;rw [← this];simp
    have hlt8:=Pl.lts_le pr F T
    have hzI:¬ (z:Int)=0:=by omega
    obtain ⟨q,hq⟩:∃ q,k+z - 1=q:=⟨_,rfl⟩
    have hkz:(k:Int)+(z:Int)≤268435456:=by omega
    have hw1:IntKind.i64.wrap ((k:Int)+(z:Int))=(k:Int)+(z:Int):=by rw [IntKind.wrap_i64];omega
    have hw2i:IntKind.i64.wrap ((k:Int)+(z:Int) - 1)=(k:Int)+(z:Int) - 1:=by rw [IntKind.wrap_i64];omega
    have h3:(k:Int)+(z:Int) - 1<(xs.length:Int):=by omega
    have h4:(0:Int)≤(k:Int)+(z:Int) - 1:=by omega
    have h5:((k:Int)+(z:Int) - 1).toNat=q:=by omega
    have h6:(k:Int)+(z:Int)≤(xs.length:Int):=by omega
    have h7:(1:Int)≤(k:Int)+(z:Int):=by omega
    have h8:(0:Int)<(k:Int)+(z:Int):=by omega
    have h9:(k:Int)+(z:Int)<(xs.length:Int)+1:=by omega
    have h10:¬ (k:Int)+(z:Int)<1:=by omega
    rw [hq] at k2
    clear hcs hz HX hF hT hCw hz'
    have hneN:(some w2'.heap.size)≠u5.ownBlock:=fun e'=>by
     have:=(ownBlock_lt hrow e'.symm).1
     have:=h2'.size
     omega
    have hgl2:g<w2.heap.size:=by have:=hB2.size;omega
    have hneg:(some g)≠u5.ownBlock:=fun e'=>by
     have:=(ownBlock_lt hrow e'.symm).2
     omega
    have hszN:w2'.heap.size<w2.heap.size:=by omega
    subst hw2
    go_wp2_with fail
    go_region_held3 (fun w'=>w'.cell? ⟨g,k*3+1,none⟩=some (.int .i64 (F:Int))∧w'.cell? ⟨g,q*3+2,none⟩=some (.int .i64 (T:Int))∧w'.cell? ⟨w2'.heap.size,1,none⟩=some (.string pr)) (go_keep) ((go_at_call 293;refine (appendWord_any w.heap.size _ pre pr hzl.2 F T _ (by simp;omega) (by omega) hrow2.drew).mono ?_;rintro e w3 ⟨v,rfl,hr3,hB3,hgr3⟩;have x1:=(hgr3.cell_far ⟨g,k*3+1,none⟩ (by simpa using hgl2) hneg).trans k1;have x2:=(hgr3.cell_far ⟨g,q*3+2,none⟩ (by simpa using hgl2) hneg).trans k2;have x3:=(hgr3.cell_far ⟨w2'.heap.size,1,none⟩ (by simp) hneN).trans n1))
    go_wp2_with fail
    refine ⟨⟨k+z,m',pre++Pl.lts pr F T,by go_num,by omega,hm',HX2,by simp;omega,hr3,hB2.drew.trans hB3⟩,by simp [intOf];omega⟩
  ·have hx:pre=ys:=by have:=HX.out;rw [Pl.exs_nil hlt] at this;simpa using this
   have hltI:¬ (k:Int)<(xs.length:Int):=by omega
   subst hx
   go_wp2
   go_ret
   exact ⟨_,rfl,hrow,hB⟩
end Go.Proofs.YtcmgclckknpecaaGreatDoor
namespace Go.Proofs.YtcmgclckknpecaaGreatDoor
open Go.RowKit
theorem res100 {tmps:Array Value} {w:World} {b:Nat} {v:Value} (hp:tmps[2]?=some (.pointer (some ⟨b,0,none⟩))) (hc:w.cell? ⟨b,0,none⟩=some v):(results Tryz.f127 tmps).run Tryz.prog w=.ok (.agg #[v]) w:=by
 simp [results,Tryz.results127,go_sem,hp,hc]
set_option maxRecDepth 100000 in
set_option maxHeartbeats 1000000 in
theorem makeCutter_blanks (p1 p2:Option Addr) (n1 c1 n2 c2:Nat) (x z:Int) (w:World) :
  Calls Tryz.prog 128 #[.agg #[.string ⟨#[98,108,97,110,107,115]⟩,.slice p1 n1 c1,.slice p2 n2 c2,.int .i64 x,.int .i64 z]] w fun e w'=>∃ bs,e=.returned (.agg #[.func (.func 296) #[] #[.pointer (some ⟨bs,0,none⟩)]])∧Boxed w' bs 372 (.func (.func 201) #[] #[])∧w.heap.size≤bs∧Below w.heap.size w w':=by
 have bx:Boxed ((w.alloc (.cells #[.string ⟨#[98,108,97,110,107,115]⟩,.slice p1 n1 c1,.slice p2 n2 c2,.int .i64 x,.int .i64 z] 96)).alloc (.cells #[(.func (.func 296) #[] #[.pointer (some ⟨w.heap.size+1+1,0,none⟩)])] 116)) (w.heap.size+1) 116 (.func (.func 296) #[] #[.pointer (some ⟨w.heap.size+1+1,0,none⟩)]):=by
  have:=Boxed.new (w.alloc (.cells #[.string ⟨#[98,108,97,110,107,115]⟩,.slice p1 n1 c1,.slice p2 n2 c2,.int .i64 x,.int .i64 z] 96)) 116 (.func (.func 296) #[] #[.pointer (some ⟨w.heap.size+1+1,0,none⟩)])
  simpa using this
 have by1:=bx.alloc (.cells #[.func (.func 201) #[] #[]] 372)
 have bz:Boxed (((w.alloc (.cells #[.string ⟨#[98,108,97,110,107,115]⟩,.slice p1 n1 c1,.slice p2 n2 c2,.int .i64 x,.int .i64 z] 96)).alloc (.cells #[(.func (.func 296) #[] #[.pointer (some ⟨w.heap.size+1+1,0,none⟩)])] 116)).alloc (.cells #[.func (.func 201) #[] #[]] 372)) (w.heap.size+1+1) 372 (.func (.func 201) #[] #[]):=by
  have:=Boxed.new ((w.alloc (.cells #[.string ⟨#[98,108,97,110,107,115]⟩,.slice p1 n1 c1,.slice p2 n2 c2,.int .i64 x,.int .i64 z] 96)).alloc (.cells #[(.func (.func 296) #[] #[.pointer (some ⟨w.heap.size+1+1,0,none⟩)])] 116)) 372 (.func (.func 201) #[] #[])
  simpa using this
 go_enter Tryz.func128,Tryz.ntmps128
 go_wp2_with (go_at_call 199;refine (rows_any 201 _).mono ?_;rintro e w' ⟨rfl,rfl⟩)
 have hB:Below w.heap.size w (((w.alloc (.cells #[.string ⟨#[98,108,97,110,107,115]⟩,.slice p1 n1 c1,.slice p2 n2 c2,.int .i64 x,.int .i64 z] 96)).alloc (.cells #[(.func (.func 296) #[] #[.pointer (some ⟨w.heap.size+1+1,0,none⟩)])] 116)).alloc (.cells #[.func (.func 201) #[] #[]] 372)):=((Below.refl _ w).alloc (Nat.le_refl _) _).alloc (by simp) _ |>.alloc (by simp;omega) _
 refine bodyPost_ret (res101 rfl by1.cell) rfl ?_
 exact ⟨w.heap.size+1+1,rfl,bz,by omega,hB⟩
set_option maxRecDepth 100000 in
set_option maxHeartbeats 1000000 in
theorem makeCutter_whole (p1 p2:Option Addr) (n1 c1 n2 c2:Nat) (x z:Int) (w:World) :
  Calls Tryz.prog 128 #[.agg #[.string ⟨#[119,104,111,108,101]⟩,.slice p1 n1 c1,.slice p2 n2 c2,.int .i64 x,.int .i64 z]] w fun e w'=>∃ bs,e=.returned (.agg #[.func (.func 296) #[] #[.pointer (some ⟨bs,0,none⟩)]])∧Boxed w' bs 372 (.func (.func 202) #[] #[])∧w.heap.size≤bs∧Below w.heap.size w w':=by
 have bx:Boxed ((w.alloc (.cells #[.string ⟨#[119,104,111,108,101]⟩,.slice p1 n1 c1,.slice p2 n2 c2,.int .i64 x,.int .i64 z] 96)).alloc (.cells #[(.func (.func 296) #[] #[.pointer (some ⟨w.heap.size+1+1,0,none⟩)])] 116)) (w.heap.size+1) 116 (.func (.func 296) #[] #[.pointer (some ⟨w.heap.size+1+1,0,none⟩)]):=by
  have:=Boxed.new (w.alloc (.cells #[.string ⟨#[119,104,111,108,101]⟩,.slice p1 n1 c1,.slice p2 n2 c2,.int .i64 x,.int .i64 z] 96)) 116 (.func (.func 296) #[] #[.pointer (some ⟨w.heap.size+1+1,0,none⟩)])
  simpa using this
 have by1:=bx.alloc (.cells #[.func (.func 202) #[] #[]] 372)
 have bz:Boxed (((w.alloc (.cells #[.string ⟨#[119,104,111,108,101]⟩,.slice p1 n1 c1,.slice p2 n2 c2,.int .i64 x,.int .i64 z] 96)).alloc (.cells #[(.func (.func 296) #[] #[.pointer (some ⟨w.heap.size+1+1,0,none⟩)])] 116)).alloc (.cells #[.func (.func 202) #[] #[]] 372)) (w.heap.size+1+1) 372 (.func (.func 202) #[] #[]):=by
  have:=Boxed.new ((w.alloc (.cells #[.string ⟨#[119,104,111,108,101]⟩,.slice p1 n1 c1,.slice p2 n2 c2,.int .i64 x,.int .i64 z] 96)).alloc (.cells #[(.func (.func 296) #[] #[.pointer (some ⟨w.heap.size+1+1,0,none⟩)])] 116)) 372 (.func (.func 202) #[] #[])
  simpa using this
 go_enter Tryz.func128,Tryz.ntmps128
 go_wp2_with (go_at_call 199;refine (rows_any 202 _).mono ?_;rintro e w' ⟨rfl,rfl⟩)
 have hB:Below w.heap.size w (((w.alloc (.cells #[.string ⟨#[119,104,111,108,101]⟩,.slice p1 n1 c1,.slice p2 n2 c2,.int .i64 x,.int .i64 z] 96)).alloc (.cells #[(.func (.func 296) #[] #[.pointer (some ⟨w.heap.size+1+1,0,none⟩)])] 116)).alloc (.cells #[.func (.func 202) #[] #[]] 372)):=((Below.refl _ w).alloc (Nat.le_refl _) _).alloc (by simp) _ |>.alloc (by simp;omega) _
 refine bodyPost_ret (res101 rfl by1.cell) rfl ?_
 exact ⟨w.heap.size+1+1,rfl,bz,by omega,hB⟩
set_option maxRecDepth 100000 in
set_option maxHeartbeats 1000000 in
theorem makeEarly_tags (p1 p2:Option Addr) (n1 c1 n2 c2:Nat) (x z:Int) (w:World) :
  Calls Tryz.prog 127 #[.agg #[.string ⟨#[116,97,103,115]⟩,.slice p1 n1 c1,.slice p2 n2 c2,.int .i64 x,.int .i64 z]] w fun e w'=>e=.returned (.agg #[.func (.func 195) #[] #[]])∧Below w.heap.size w w':=by
 have bx:Boxed ((w.alloc (.cells #[.string ⟨#[116,97,103,115]⟩,.slice p1 n1 c1,.slice p2 n2 c2,.int .i64 x,.int .i64 z] 96)).alloc (.cells #[.func (.func 195) #[] #[]] 189)) (w.heap.size+1) 189 (.func (.func 195) #[] #[]):=by
  have:=Boxed.new (w.alloc (.cells #[.string ⟨#[116,97,103,115]⟩,.slice p1 n1 c1,.slice p2 n2 c2,.int .i64 x,.int .i64 z] 96)) 189 (.func (.func 195) #[] #[])
  simpa using this
 go_enter Tryz.func127,Tryz.ntmps127
 go_wp2
 have hB:Below w.heap.size w ((w.alloc (.cells #[.string ⟨#[116,97,103,115]⟩,.slice p1 n1 c1,.slice p2 n2 c2,.int .i64 x,.int .i64 z] 96)).alloc (.cells #[.func (.func 195) #[] #[]] 189)):=((Below.refl _ w).alloc (Nat.le_refl _) _).alloc (by simp) _
 refine bodyPost_ret (res100 rfl bx.cell) rfl ?_
 exact ⟨rfl,hB⟩
set_option maxRecDepth 100000 in
set_option maxHeartbeats 1000000 in
theorem makeEarly_fold (p1 p2:Option Addr) (n1 c1 n2 c2:Nat) (x z:Int) (w:World) :
  Calls Tryz.prog 127 #[.agg #[.string ⟨#[102,111,108,100]⟩,.slice p1 n1 c1,.slice p2 n2 c2,.int .i64 x,.int .i64 z]] w fun e w'=>e=.returned (.agg #[.func (.func 196) #[] #[]])∧Below w.heap.size w w':=by
 have bx:Boxed ((w.alloc (.cells #[.string ⟨#[102,111,108,100]⟩,.slice p1 n1 c1,.slice p2 n2 c2,.int .i64 x,.int .i64 z] 96)).alloc (.cells #[.func (.func 196) #[] #[]] 189)) (w.heap.size+1) 189 (.func (.func 196) #[] #[]):=by
  have:=Boxed.new (w.alloc (.cells #[.string ⟨#[102,111,108,100]⟩,.slice p1 n1 c1,.slice p2 n2 c2,.int .i64 x,.int .i64 z] 96)) 189 (.func (.func 196) #[] #[])
  simpa using this
 go_enter Tryz.func127,Tryz.ntmps127
 go_wp2
 have hB:Below w.heap.size w ((w.alloc (.cells #[.string ⟨#[102,111,108,100]⟩,.slice p1 n1 c1,.slice p2 n2 c2,.int .i64 x,.int .i64 z] 96)).alloc (.cells #[.func (.func 196) #[] #[]] 189)):=((Below.refl _ w).alloc (Nat.le_refl _) _).alloc (by simp) _
 refine bodyPost_ret (res100 rfl bx.cell) rfl ?_
 exact ⟨rfl,hB⟩
set_option maxRecDepth 100000 in
set_option maxHeartbeats 1000000 in
theorem makeEarly_map (p1 p2:Option Addr) (n1 c1 n2 c2:Nat) (x z:Int) (w:World) :
  Calls Tryz.prog 127 #[.agg #[.string ⟨#[109,97,112,40]⟩,.slice p1 n1 c1,.slice p2 n2 c2,.int .i64 x,.int .i64 z]] w fun e w'=>∃ b,e=.returned (.agg #[.func (.func 197) #[] #[.pointer (some ⟨b,0,none⟩)]])∧Blk b 96 #[.string ⟨#[109,97,112,40]⟩,.slice p1 n1 c1,.slice p2 n2 c2,.int .i64 x,.int .i64 z] w'∧w.heap.size≤b∧Below w.heap.size w w':=by
 have bx:Boxed ((w.alloc (.cells #[.string ⟨#[109,97,112,40]⟩,.slice p1 n1 c1,.slice p2 n2 c2,.int .i64 x,.int .i64 z] 96)).alloc (.cells #[.func (.func 197) #[] #[.pointer (some ⟨w.heap.size,0,none⟩)]] 189)) (w.heap.size+1) 189 (.func (.func 197) #[] #[.pointer (some ⟨w.heap.size,0,none⟩)]):=by
  have:=Boxed.new (w.alloc (.cells #[.string ⟨#[109,97,112,40]⟩,.slice p1 n1 c1,.slice p2 n2 c2,.int .i64 x,.int .i64 z] 96)) 189 (.func (.func 197) #[] #[.pointer (some ⟨w.heap.size,0,none⟩)])
  simpa using this
 have bn:Blk w.heap.size 96 #[.string ⟨#[109,97,112,40]⟩,.slice p1 n1 c1,.slice p2 n2 c2,.int .i64 x,.int .i64 z] (w.alloc (.cells #[.string ⟨#[109,97,112,40]⟩,.slice p1 n1 c1,.slice p2 n2 c2,.int .i64 x,.int .i64 z] 96)):=heap_alloc_new w _
 go_enter Tryz.func127,Tryz.ntmps127
 go_wp2
 have hB:Below w.heap.size w ((w.alloc (.cells #[.string ⟨#[109,97,112,40]⟩,.slice p1 n1 c1,.slice p2 n2 c2,.int .i64 x,.int .i64 z] 96)).alloc (.cells #[.func (.func 197) #[] #[.pointer (some ⟨w.heap.size,0,none⟩)]] 189)):=((Below.refl _ w).alloc (Nat.le_refl _) _).alloc (by simp) _
 refine bodyPost_ret (res100 rfl bx.cell) rfl ?_
 exact ⟨w.heap.size,rfl,bn.alloc _,Nat.le_refl _,hB⟩
theorem mapStage_any (b g cap:Nat) (xs:List (Nat × Nat × Nat)) (a:Option Addr) (ap:Option Addr) (gp capp:Nat) (ps:List (ByteArray × ByteArray)) (w:World) (hb:w.cell? ⟨b,2,none⟩=some (.slice ap ps.length capp)) (hC:Cr g 0 xs w) (ha:0<xs.length→a=some ⟨g,0,none⟩) (hg:0<xs.length→g<w.heap.size) (hcap:xs.length≤cap) (hl:xs.length≤268435456)
  (hap:0<ps.length→ap=some ⟨gp,0,none⟩) (hgp:0<ps.length→gp<w.heap.size) (hP:Prw gp ps w) (hA:∀ p∈ps,Asc p.1) (hp8:∀ p∈ps,p.2.size≤8) (hpl:ps.length≤1000) :
  Calls Tryz.prog 197 #[.slice a xs.length cap,.pointer (some ⟨b,0,none⟩)] w fun e w'=>∃ v,e=.returned v∧w'.ownsRow w.heap.size 38 3 v (Pl.exs ps xs xs.length 0).length ((Pl.exs ps xs xs.length 0).flatMap enc)∧Below w.heap.size w w':=by
 obtain ⟨ys,hys⟩:∃ ys,Pl.exs ps xs xs.length 0=ys:=⟨_,rfl⟩
 have hx:=exchange_any g cap xs a ap gp capp ps w hC ha hg hcap hl hap hgp hP hA hp8 hpl
 rw [hys] at hx ⊢
 have HX:Hid (Calls Tryz.prog 198 #[.slice a xs.length cap,.slice ap ps.length capp] w fun e w'=>∃ v,e=.returned v∧w'.ownsRow w.heap.size 38 3 v ys.length (ys.flatMap enc)∧Below w.heap.size w w'):=hx
 clear hx hys
 go_enter Tryz.func197,Tryz.ntmps197
 go_wp2_with (go_at_call 198;refine HX.out.mono ?_;rintro e w2 ⟨v,rfl,hr,hB⟩)
 go_ret
 exact ⟨_,rfl,hr,hB⟩
end Go.Proofs.YtcmgclckknpecaaGreatDoor
