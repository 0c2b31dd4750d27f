import Derived.Test.YtcmgclckknpecaaGreatDoorKbe
import Derived.Test.YtcmgclckknpecaaGreatDoorKbf
import Derived.Test.YtcmgclckknpecaaGreatDoorKbg
import Derived.Test.YtcmgclckknpecaaGreatDoorKaz
import Derived.Test.YtcmgclckknpecaaGreatDoorKbb
namespace Go.Proofs.YtcmgclckknpecaaGreatDoor
open Go.RowKit
theorem row_tx {w:World} {base:Nat} {v:Value} {ws:List ByteArray} (h:w.ownsRow base 9 1 v ws.length (ws.map .string)):∃ a cap g,v=.slice a ws.length cap∧Tx g ws w∧(0<ws.length→a=some ⟨g,0,none⟩)∧(0<ws.length→g<w.heap.size):=by
 rcases h.2 with ⟨rfl,hn⟩ | ⟨g,cap,cur,hv,_,hh,_,_,_,ht⟩
 ·exact ⟨none,0,0,by rw [hn],⟨fun i hi=>by omega⟩,fun h=>by omega,fun h=>by omega⟩
 ·refine ⟨some ⟨g,0,none⟩,cap,g,hv,⟨fun i hi=>?_⟩,fun _=>rfl,fun _=>(Array.getElem?_eq_some_iff.1 hh).1⟩
  have h1:(cur.toList.take (ws.length*1))[i]?=some (.string (ws[i])):=by rw [ht];simp [hi]
  rw [List.getElem?_take_of_lt (by omega)] at h1
  have h2:cur[i]?=some (.string (ws[i])):=by simpa using h1
  simp [World.cell?,hh,h2]
theorem penc_at (ps:List (ByteArray × ByteArray)):∀ (i:Nat) (hi:i<ps.length),(ps.flatMap penc)[i*2]?=some (.string (ps[i]).1)∧(ps.flatMap penc)[i*2+1]?=some (.string (ps[i]).2):=by
 induction ps with
 | nil=>intro i hi;simp at hi
 | cons p r ih =>
  intro i hi
  rw [List.flatMap_cons]
  cases i with
  | zero=>simp [penc]
  | succ i =>
   have:=ih i (by simpa using hi)
   rw [List.getElem?_append_right (by simp [penc];omega),List.getElem?_append_right (by simp [penc];omega)]
   rw [show (i+1)*2 - (penc p).length=i*2 by simp [penc];omega,show (i+1)*2+1 - (penc p).length=i*2+1 by simp [penc];omega]
   simpa using this
theorem row_pr {w:World} {base:Nat} {v:Value} {ps:List (ByteArray × ByteArray)} (h:w.ownsRow base 287 2 v ps.length (ps.flatMap penc)):∃ a cap g,v=.slice a ps.length cap∧Prw g ps w∧(0<ps.length→a=some ⟨g,0,none⟩)∧(0<ps.length→g<w.heap.size):=by
 rcases h.2 with ⟨rfl,hn⟩ | ⟨g,cap,cur,hv,_,hh,_,_,_,ht⟩
 ·exact ⟨none,0,0,by rw [hn],⟨fun i hi=>by omega⟩,fun h=>by omega,fun h=>by omega⟩
 ·refine ⟨some ⟨g,0,none⟩,cap,g,hv,⟨fun i hi=>?_⟩,fun _=>rfl,fun _=>(Array.getElem?_eq_some_iff.1 hh).1⟩
  have hp:=penc_at ps i hi
  have h1:(cur.toList.take (ps.length*2))[i*2]?=some (.string (ps[i]).1):=by rw [ht];exact hp.1
  have h2:(cur.toList.take (ps.length*2))[i*2+1]?=some (.string (ps[i]).2):=by rw [ht];exact hp.2
  rw [List.getElem?_take_of_lt (by omega)] at h1 h2
  have h3:cur[i*2]?=some (.string (ps[i]).1):=by simpa using h1
  have h4:cur[i*2+1]?=some (.string (ps[i]).2):=by simpa using h2
  simp [World.cell?,hh,h3,h4]
set_option maxRecDepth 100000 in
set_option maxHeartbeats 4000000 in
theorem rpiece_stage (gram:Bool) (nm:ByteArray) (hE:(nm.toList == [103,114,97,109])=gram) (n1:(nm.toList == [108,111,119])=false) (n2:(nm.toList == [115,116,101,109])=false) (n3:(nm.toList == [115,116,111,112])=false) (n4:(nm.toList == [115,121,110])=false) (n5:(nm.toList == [108,101,110])=false) (cs:List Nat) (sa:Option Addr) (sc sg pos F T A B:Nat) (wa pa:Option Addr) (wn wc pn pc:Nat) (w:World)
  (hC:Co sg cs w) (hsa:0<cs.length→sa=some ⟨sg,0,none⟩) (hsg:0<cs.length→sg<w.heap.size) (hA:1≤A) (hA9:A≤9) (hB9:B≤9) (hlen:cs.length≤300000000) :
  Calls Tryz.prog 80 #[.agg #[.slice sa cs.length sc,.int .i64 (pos:Int),.int .i64 (F:Int),.int .i64 (T:Int)],.agg #[.string nm,.slice wa wn wc,.slice pa pn pc,.int .i64 (A:Int),.int .i64 (B:Int)]] w fun e w' =>
   ∃ v,e=.returned v∧Tkr w.heap.size v ((Pl.pcR gram cs A B cs.length 0).map fun u=>(u,pos,F,T)) w'∧Below w.heap.size w w':=by
 obtain ⟨w0,hw0⟩:∃ w0,(w.alloc (.cells #[.slice sa cs.length sc,.int .i64 (pos:Int),.int .i64 (F:Int),.int .i64 (T:Int)] 128)).alloc (.cells #[.string nm,.slice wa wn wc,.slice pa pn pc,.int .i64 (A:Int),.int .i64 (B:Int)] 207)=w0:=⟨_,rfl⟩
 have hT:Blk w.heap.size 128 #[.slice sa cs.length sc,.int .i64 (pos:Int),.int .i64 (F:Int),.int .i64 (T:Int)] w0:=by
  rw [← hw0]
  have h:Blk w.heap.size 128 #[.slice sa cs.length sc,.int .i64 (pos:Int),.int .i64 (F:Int),.int .i64 (T:Int)] (w.alloc (.cells #[.slice sa cs.length sc,.int .i64 (pos:Int),.int .i64 (F:Int),.int .i64 (T:Int)] 128)):=heap_alloc_new w _
  exact h.alloc _
 have hS:Blk (w.heap.size+1) 207 #[.string nm,.slice wa wn wc,.slice pa pn pc,.int .i64 (A:Int),.int .i64 (B:Int)] w0:=by
  rw [← hw0]
  have h:=heap_alloc_new (w.alloc (.cells #[.slice sa cs.length sc,.int .i64 (pos:Int),.int .i64 (F:Int),.int .i64 (T:Int)] 128)) (.cells #[.string nm,.slice wa wn wc,.slice pa pn pc,.int .i64 (A:Int),.int .i64 (B:Int)] 207)
  rw [World.size_alloc] at h
  exact h
 have hB0:Below w.heap.size w w0:=by rw [← hw0];exact ((Below.refl _ w).alloc (Nat.le_refl _) _).alloc (by simp) _
 have hsz0:w0.heap.size=w.heap.size+2:=by rw [← hw0];simp
 have HPC:Hid (Calls Tryz.prog 144 #[.agg #[.slice sa cs.length sc,.int .i64 (pos:Int),.int .i64 (F:Int),.int .i64 (T:Int)],.agg #[.string nm,.slice wa wn wc,.slice pa pn pc,.int .i64 (A:Int),.int .i64 (B:Int)]] w0 fun e w' =>
   ∃ v,e=.returned v∧Tkr w0.heap.size v ((Pl.pcR gram cs A B cs.length 0).map fun u=>(u,pos,F,T)) w'∧Below w0.heap.size w0 w'):=rpieces_any gram nm hE cs sa sc sg pos F T A B wa pa wn wc pn pc w0 (hC.below hB0 hsg) hsa (fun h=>by have:=hsg h;omega) hA hA9 hB9 hlen
 clear hE
 go_enter Tryz.func80,Tryz.ntmps80
 obtain ⟨⟨t0,t1,t2,t3⟩,tf⟩:=hT.four
 obtain ⟨s0,s1,s2,s3,s4,sf⟩:=hS.five
 go_wp2_with fail
 refine HPC.out.mono ?_
 rintro e w1 ⟨v,rfl,hTk,hB1⟩
 go_wp2_with fail
 go_ret
 exact ⟨_,rfl,hTk.base (by omega),hB0.trans (hB1.mono (by omega))⟩
theorem rchanged_any (i:Nat) (hi:i<Pl.lates.length) (sp:Sp) (hnm:sp.nm=Pl.lates[i]) (hw:SpW sp) (hlo:4≤i→1≤sp.lo∧sp.lo≤9) (v1 v2:Value) (base:Nat) (x z:Int) (w:World) (hR:StR base sp v1 v2 x z w) (cs:List Nat) (sv:Value) (pos F T:Nat) (hco:CoR w sv cs) (hok:∀ c∈cs,Pl.okc c) (hl:cs.length≤300000000) :
  Calls Tryz.prog 80 #[.agg #[sv,.int .i64 (pos:Int),.int .i64 (F:Int),.int .i64 (T:Int)],.agg #[.string (Pl.stp sp.nm),v1,v2,.int .i64 x,.int .i64 z]] w fun e w'=>∃ v,e=.returned v∧Tkr w.heap.size v ((Pl.laS sp cs).map fun u=>(u,pos,F,T)) w'∧Below w.heap.size w w':=by
 obtain ⟨sa,sc,sg,rfl,hC,hsa,hsg⟩:=hco.co
 obtain ⟨wa,wc,gw,rfl,hX,hwa,hgw⟩:=row_tx hR.r1
 obtain ⟨pa,pc,gp,rfl,hP,hpa,hgp⟩:=row_pr hR.r2
 obtain rfl:=hR.hx
 obtain rfl:=hR.hz
 have hiL:Pl.iL sp.nm=i:=by rw [hnm];exact Pl.iL_at i hi
 unfold Pl.laS
 rw [hiL]
 have hi7:i<7:=hi
 obtain rfl | rfl | rfl | rfl | rfl | rfl | rfl:i=0∨i=1∨i=2∨i=3∨i=4∨i=5∨i=6:=by omega
 ·rw [show Pl.stp sp.nm=⟨#[108,111,119]⟩ from by rw [hnm];exact (by decide +kernel:Pl.stp ⟨#[108,111,119]⟩=⟨#[108,111,119]⟩)]
  exact rlow_any cs sa sc pos F T _ _ wa pa _ wc _ pc w hco hok hl
 ·rw [show Pl.stp sp.nm=⟨#[115,116,101,109]⟩ from by rw [hnm];exact (by decide +kernel:Pl.stp ⟨#[115,116,101,109]⟩=⟨#[115,116,101,109]⟩)]
  exact rstem_late cs sa sc pos F T _ _ wa pa _ wc _ pc w hco hok hl
 ·rw [show Pl.stp sp.nm=⟨#[115,116,111,112]⟩ from by rw [hnm];exact (by decide +kernel:Pl.stp ⟨#[115,116,111,112,40]⟩=⟨#[115,116,111,112]⟩)]
  exact rstop_any cs sa sc pos F T _ _ wa pa _ wc _ pc w hco hok hl gw sp.ws hX rfl hwa hgw hw.wl
 ·rw [show Pl.stp sp.nm=⟨#[115,121,110]⟩ from by rw [hnm];exact (by decide +kernel:Pl.stp ⟨#[115,121,110,40]⟩=⟨#[115,121,110]⟩)]
  exact rsyn_any cs sa sc pos F T _ _ wa pa _ wc _ pc w hco hok hl gp sp.ps hP rfl hpa hgp (fun p hp=>(hw.pa p hp).2.2.2.2) hw.pl
 ·rw [show Pl.stp sp.nm=⟨#[108,101,110]⟩ from by rw [hnm];exact (by decide +kernel:Pl.stp ⟨#[108,101,110,40]⟩=⟨#[108,101,110]⟩)]
  exact rlen_any cs sa sc pos F T _ _ wa pa _ wc _ pc w hco
 ·rw [show Pl.stp sp.nm=⟨#[103,114,97,109]⟩ from by rw [hnm];exact (by decide +kernel:Pl.stp ⟨#[103,114,97,109,40]⟩=⟨#[103,114,97,109]⟩)]
  have h1:=hlo (by omega)
  have:=rpiece_stage true ⟨#[103,114,97,109]⟩ (by decide +kernel) (by decide +kernel) (by decide +kernel) (by decide +kernel) (by decide +kernel) (by decide +kernel) cs sa sc sg pos F T sp.lo sp.hi wa pa sp.ws.length wc sp.ps.length pc w hC hsa hsg h1.1 h1.2 hw.hb hl
  rw [Pl.pcR_gram _ _ _ h1.1] at this
  exact this
 ·rw [show Pl.stp sp.nm=⟨#[101,100,103,101]⟩ from by rw [hnm];exact (by decide +kernel:Pl.stp ⟨#[101,100,103,101,40]⟩=⟨#[101,100,103,101]⟩)]
  have h1:=hlo (by omega)
  have:=rpiece_stage false ⟨#[101,100,103,101]⟩ (by decide +kernel) (by decide +kernel) (by decide +kernel) (by decide +kernel) (by decide +kernel) (by decide +kernel) cs sa sc sg pos F T sp.lo sp.hi wa pa sp.ws.length wc sp.ps.length pc w hC hsa hsg h1.1 h1.2 hw.hb hl
  rw [Pl.pcR_edge _ _ _ h1.1] at this
  exact this
end Go.Proofs.YtcmgclckknpecaaGreatDoor
namespace Go.Proofs.YtcmgclckknpecaaGreatDoor
open Go.RowKit
theorem info65:(Tryz.prog.info? 65).map (fun i=>(i.zero,i.size,i.bytes))=some (some (.agg #[.int .i64 0,.slice none 0 0]),2,32):=by kernel_rfl
theorem KqF.trans {b:Nat} {x y z:World} (h:KqF b x y) (k:KqF b y z):KqF b x z:=fun g cur t hg ht e=>k g cur t hg ht (h g cur t hg ht e)
theorem KqF.of_row {w w':World} {b0 base:Nat} {t:TypeId} {sz n:Nat} {v:Value} {xs:List Value} (h:w.ownsRow b0 t sz v n xs) (h9:t≠9) (h287:t≠287) (hg:w.grownBy w' v.ownBlock):KqF base w w':=fun g cur t2 _ ht e=>by
 refine (hg.block g (Array.getElem?_eq_some_iff.1 e).1 fun hs=>?_).trans e
 rcases h.2 with ⟨rfl,_⟩ | ⟨g',cap,c2,rfl,_,hh,_⟩
 ·simp [Value.ownBlock] at hs
 ·have:g=g':=by simpa [Value.ownBlock] using hs
  subst this
  rw [e] at hh
  injection hh with hh
  injection hh with _ h2 _
  subst h2
  rcases ht with h | h
  ·exact h9 h
  ·exact h287 h
abbrev Du:=Value × Nat × List ByteArray
def denc (u:Du):List Value:=[.int .i64 (u.2.1:Int),u.1]
theorem denc_snoc (us:List Du) (u:Du):(us++[u]).flatMap denc=us.flatMap denc++denc u:=by simp [List.flatMap_append]
structure Ds (base:Nat) (v:Value) (ds:List (Nat × List ByteArray)) (w:World):Prop where
 r:∃ us:List Du,us.map (·.2)=ds∧w.ownsRow base 65 2 v us.length (us.flatMap denc)∧∀ u∈us,w.ownsRow 0 9 1 u.1 u.2.2.length (u.2.2.map .string)
theorem Ds.nil (base:Nat) (w:World):Ds base (.slice none 0 0) [] w:=⟨[],rfl,World.ownsRow_nil _ _ _ _,by simp⟩
theorem Ds.len {base:Nat} {v:Value} {ds:List (Nat × List ByteArray)} {w:World} (h:Ds base v ds w):∃ a cap,v=.slice a ds.length cap:=by
 obtain ⟨us,rfl,h2,h3⟩:=h.r
 rcases h2.2 with ⟨rfl,hn⟩ | ⟨g,cap,cur,rfl,_⟩
 ·exact ⟨none,0,by simp [hn]⟩
 ·exact ⟨some ⟨g,0,none⟩,cap,by simp⟩
theorem Ds.below {base:Nat} {v:Value} {ds:List (Nat × List ByteArray)} {w w':World} (h:Ds base v ds w) (hb:Below w.heap.size w w'):Ds base v ds w':=by
 obtain ⟨us,h1,h2,h3⟩:=h.r
 exact ⟨us,h1,ownsRow_below h2 hb,fun u hu=>row_keep (h3 u hu) fun g cur hg=>KqF.below hb g cur 9 hg (.inl rfl)⟩
theorem denc_at (us:List Du):∀ (i:Nat) (hi:i<us.length),(us.flatMap denc)[i*2]?=some (.int .i64 ((us[i]).2.1:Int))∧(us.flatMap denc)[i*2+1]?=some (us[i]).1:=by
 induction us with
 | nil=>intro i hi;simp at hi
 | cons p r ih =>
  intro i hi
  rw [List.flatMap_cons]
  cases i with
  | zero=>simp [denc]
  | succ i =>
   have:=ih i (by simpa using hi)
   rw [List.getElem?_append_right (by simp [denc];omega),List.getElem?_append_right (by simp [denc];omega)]
   rw [show (i+1)*2 - (denc p).length=i*2 by simp [denc];omega,show (i+1)*2+1 - (denc p).length=i*2+1 by simp [denc];omega]
   simpa using this
theorem Ds.at {base:Nat} {v:Value} {ds:List (Nat × List ByteArray)} {w:World} (h:Ds base v ds w) {k:Nat} (hk:k<ds.length):∃ g cap tv,v=.slice (some ⟨g,0,none⟩) ds.length cap∧base≤g∧g<w.heap.size∧w.cell? ⟨g,k*2,none⟩=some (.int .i64 ((ds[k]).1:Int))∧w.cell? ⟨g,k*2+1,none⟩=some tv∧w.ownsRow 0 9 1 tv (ds[k]).2.length ((ds[k]).2.map .string):=by
 obtain ⟨us,rfl,h2,h3⟩:=h.r
 have hk':k<us.length:=by simpa using hk
 rcases h2.2 with ⟨rfl,hn⟩ | ⟨g,cap,cur,rfl,hb,hh,_,_,_,ht⟩
 ·omega
 ·have hp:=denc_at us k hk'
  have c:∀ j u,j<us.length*2→(us.flatMap denc)[j]?=some u→w.cell? ⟨g,j,none⟩=some u:=fun j u hj hu=>by
   rw [← ht,List.getElem?_take_of_lt hj] at hu
   have h3:cur[j]?=some u:=by simpa using hu
   simp [World.cell?,hh,h3]
  have e:(us.map (·.2))[k]=(us[k]).2:=by simp
  exact ⟨g,cap,(us[k]).1,by simp,hb,(Array.getElem?_eq_some_iff.1 hh).1,by rw [e];exact c _ _ (by omega) hp.1,c _ _ (by omega) hp.2,by rw [e];exact h3 _ (List.getElem_mem hk')⟩
def Pl.dix (id:Int):List Nat→Nat→Int
 | [],_=>-1
 | x :: r,i=>if (x:Int)=id then (i:Int) else Pl.dix id r (i+1)
set_option maxRecDepth 100000 in
set_option maxHeartbeats 2000000 in
theorem rdoc_any (d base:Nat) (v0 v1 v2:Value) (ds:List (Nat × List ByteArray)) (id:Int) (w:World) (hD:Dg d v0 v1 v2 w) (hDs:Ds base v2 ds w) (hl:ds.length≤1000) (R:Int) (HR:Hid (Pl.dix id (ds.map (·.1)) 0=R)) :
  Calls Tryz.prog 151 #[.pointer (some ⟨d,0,none⟩),.int .i64 id] w fun e w'=>e=.returned (.int .i64 R)∧Below w.heap.size w w':=by
 obtain ⟨a,cap,rfl⟩:=hDs.len
 obtain ⟨c0,c1,c2,cf⟩:=hD.cell
 have HDS:Hid (∀ k (hk:k<ds.length),∃ g,a=some ⟨g,0,none⟩∧w.cell? ⟨g,k*2,none⟩=some (.int .i64 ((ds[k]).1:Int))):=fun k hk=>by
  obtain ⟨g,cap',tv,hv,_,_,h1,_⟩:=hDs.at hk
  exact ⟨g,(Value.slice.inj hv).1,h1⟩
 clear hDs
 go_enter Tryz.func151,Tryz.ntmps151
 go_wp2_with fail
 go_loopw [5] (fun iv wr=>∃ (j q:Nat),wr=w.drewN q∧iv=.int .i64 (j:Int)∧j≤ds.length∧Hid (Pl.dix id ((ds.drop j).map (·.1)) j=R)) (fun iv _=>ds.length - (intOf iv).toNat)
 case atStart=>exact ⟨0,0,rfl,rfl,by omega,HR⟩
 case round =>
  obtain ⟨j,q,rfl,rfl,hj,HJ⟩:=hrel
  by_cases hjl:j<ds.length
  ·have hjI:(j:Int)<(ds.length:Int):=by omega
   obtain ⟨g,rfl,hc⟩:=HDS.out j hjl
   have hd:ds.drop j=ds[j] :: ds.drop (j+1):=List.drop_eq_getElem_cons hjl
   obtain ⟨⟨y,z⟩,hy⟩:∃ y,ds[j]=y:=⟨_,rfl⟩
   rw [hy] at hc hd
   simp only at hc
   have hJ:=HJ.out
   rw [hd,List.map_cons,Pl.dix] at hJ
   clear hd hy HJ
   by_cases hyx:(y:Int)=id
   ·rw [if_pos hyx] at hJ
    subst hJ
    go_wp2_with fail
    go_ret
    exact ⟨rfl,below_drewN (Below.refl _ _) _⟩
   ·rw [if_neg hyx] at hJ
    have HJ2:Hid (Pl.dix id ((ds.drop (j+1)).map (·.1)) (j+1)=R):=hJ
    clear hJ
    go_wp2_with fail
    exact ⟨⟨j+1,q,rfl,by go_num,by omega,HJ2⟩,by simp [intOf];omega⟩
  ·have hjI:¬ (j:Int)<(ds.length:Int):=by omega
   have hJ:=HJ.out
   rw [List.drop_of_length_le (by omega)] at hJ
   have hJ2:(-1:Int)=R:=hJ
   subst hJ2
   go_wp2_with fail
   go_ret
   exact ⟨rfl,below_drewN (Below.refl _ _) _⟩
theorem Pl.dix_spec (id:Int):∀ (l:List Nat) (i:Nat),(Pl.dix id l i = -1∧∀ x∈l,(x:Int)≠id)∨(∃ k,∃ h:k<l.length,Pl.dix id l i=((i+k:Nat):Int)∧((l[k]:Nat):Int)=id)
 | [],i=>.inl ⟨rfl,by simp⟩
 | x :: r,i=>by
  rw [Pl.dix]
  by_cases h:(x:Int)=id
  ·rw [if_pos h];exact .inr ⟨0,by simp,by simp,by simpa using h⟩
  ·rw [if_neg h]
   rcases Pl.dix_spec id r (i+1) with ⟨h1,h2⟩ | ⟨k,hk,h1,h2⟩
   ·exact .inl ⟨h1,fun y hy=>by rcases List.mem_cons.1 hy with rfl | hy;exact h;exact h2 y hy⟩
   ·exact .inr ⟨k+1,by simpa using hk,by rw [h1];congr 1;omega,by simpa using h2⟩
def Pl.but {α:Type} (k:Nat):List α→Nat→List α
 | [],_=>[]
 | x :: r,i=>if i=k then Pl.but k r (i+1) else x :: Pl.but k r (i+1)
theorem Pl.but_len {α:Type} (k:Nat):∀ (l:List α) (i:Nat),(Pl.but k l i).length≤l.length
 | [],_=>Nat.le_refl _
 | x :: r,i=>by
  have:=Pl.but_len k r (i+1)
  rw [Pl.but]
  split <;> simp only [List.length_cons] <;> omega
structure DelO (d base:Nat) (v0 v1 v2:Value) (ds:List (Nat × List ByteArray)) (id:Int) (w:World) (e:Ending) (w':World):Prop where
 ex:(Pl.dix id (ds.map (·.1)) 0 = -1∧e=.returned (.int .i64 7)∧Dg d v0 v1 v2 w'∧Ds base v2 ds w'∧w.grownBy w' (some d)) ∨
  (∃ k v2',Pl.dix id (ds.map (·.1)) 0=((k:Nat):Int)∧k<ds.length∧e=.returned (.int .i64 0)∧Dg d v0 v1 v2' w'∧Ds w.heap.size v2' (Pl.but k ds 0) w'∧w.grownBy w' (some d))
theorem Dg.set2 {d:Nat} {v0 v1 v2:Value} {w:World} (h:Dg d v0 v1 v2 w) (u:Value):Dg d v0 v1 u (w.setCell ⟨d,2,none⟩ u):=⟨heap_set w d 2 u _ 62 h.b⟩
theorem Ds.set {base:Nat} {v:Value} {ds:List (Nat × List ByteArray)} {w:World} {d:Nat} {cs:Array Value} (h:Ds base v ds w) (hd:w.heap[d]?=some (Obj.cells cs 62 (0,0))) (o:Nat) (u:Value):Ds base v ds (w.setCell ⟨d,o,none⟩ u):=by
 obtain ⟨us,h1,h2,h3⟩:=h.r
 refine ⟨us,h1,ownsRow_set_other h2 (row_ne_blk h2 (t:=62) hd (by decide)) o u,fun x hx=>ownsRow_set_other (h3 x hx) (row_ne_blk (h3 x hx) (t:=62) hd (by decide)) o u⟩
structure DlL (w:World) (d k:Nat) (ds fin:List (Nat × List ByteArray)) (lv iv:Value) (wr:World):Prop where
 ex:∃ (j:Nat) (pre:List (Nat × List ByteArray)),iv=.int .i64 (j:Int)∧j≤ds.length∧pre.length≤j∧pre++Pl.but k (ds.drop j) j=fin∧Ds w.heap.size lv pre wr∧Below w.heap.size w wr
set_option maxRecDepth 100000 in
set_option maxHeartbeats 4000000 in
theorem rdel_any (d base:Nat) (v0 v1 v2:Value) (ds:List (Nat × List ByteArray)) (id:Int) (w:World) (hD:Dg d v0 v1 v2 w) (hDs:Ds base v2 ds w) (hl:ds.length≤1000) :
  Calls Tryz.prog 88 #[.pointer (some ⟨d,0,none⟩),.int .i64 id] w fun e w' =>
   DelO d base v0 v1 v2 ds id w e w':=by
 have HSP:=Pl.dix_spec id (ds.map (·.1)) 0
 obtain ⟨R,hR⟩:∃ R,Pl.dix id (ds.map (·.1)) 0=R:=⟨_,rfl⟩
 have HDO:Hid (∀ W,Below w.heap.size w W→Calls Tryz.prog 151 #[.pointer (some ⟨d,0,none⟩),.int .i64 id] W fun e w'=>e=.returned (.int .i64 R)∧Below W.heap.size W w'):=fun W hW=>rdoc_any d base v0 v1 v2 ds id W ⟨(hW.block d (Array.getElem?_eq_some_iff.1 hD.b).1).trans hD.b⟩ (hDs.below hW) hl R hR
 rw [hR] at HSP
 go_enter Tryz.func88,Tryz.ntmps88
 go_wp2_with fail
 refine (HDO.out _ (Below.refl _ _)).mono ?_
 rintro e w1 ⟨rfl,hB1⟩
 have hdl:d<w.heap.size:=(Array.getElem?_eq_some_iff.1 hD.b).1
 have hD1:Dg d v0 v1 v2 w1:=⟨(hB1.block d hdl).trans hD.b⟩
 have hDs1:=hDs.below hB1
 obtain ⟨a,cap,rfl⟩:=hDs.len
 have hg1:w.grownBy w1 (some d):=grown_of_below (some d) hB1
 rcases HSP with ⟨rfl,_⟩ | ⟨k,hk,hk0,_⟩
 ·go_wp2_with fail
  go_ret
  exact ⟨.inl ⟨hR,rfl,hD1,hDs1,hg1⟩⟩
 ·have hkl:k<ds.length:=by simpa using hk
  rw [Nat.zero_add] at hk0
  subst hk0
  obtain ⟨i0,hi65,hz0,hz1,hz2⟩:=info_parts info65
  obtain ⟨fin,hfin⟩:∃ fin,Pl.but k ds 0=fin:=⟨_,rfl⟩
  have HF:Hid (([]:List (Nat × List ByteArray))++Pl.but k (ds.drop 0) 0=fin):=hfin
  have hlf:fin.length≤ds.length:=by rw [← hfin];exact Pl.but_len k ds 0
  have HDA:Hid (∀ W,Below w.heap.size w W→∀ q (hq:q<ds.length),∃ g ta tn tc,a=some ⟨g,0,none⟩∧g<w.heap.size∧W.cell? ⟨g,q*2,none⟩=some (.int .i64 ((ds[q]).1:Int))∧W.cell? ⟨g,q*2+1,none⟩=some (.slice ta tn tc)∧W.ownsRow 0 9 1 (.slice ta tn tc) (ds[q]).2.length ((ds[q]).2.map .string)):=fun W hW q hq=>by
   obtain ⟨g,cap',tv,hv,_,_,h1,h2,h3⟩:=(hDs.below hW).at hq
   obtain ⟨g',cap2,tv',hv',_,hgl,_⟩:=hDs.at hq
   have e1:=(Value.slice.inj hv).1
   have e2:=(Value.slice.inj hv').1
   have e3:g=g':=by rw [e1] at e2;simpa using e2
   subst e3
   obtain ⟨ta,tc,_,rfl,_⟩:=row_tx h3
   exact ⟨g,ta,_,tc,e1,hgl,h1,h2,h3⟩
  clear HDO hDs hDs1 hD1 hg1
  go_wp2_with fail
  go_loopw [6,7] (fun lv iv wr=>DlL w d k ds fin lv iv wr) (fun _ iv _=>ds.length - (intOf iv).toNat)
  case atStart=>exact ⟨0,[],rfl,by omega,by simp,HF.out,Ds.nil _ _,hB1⟩
  case round =>
   obtain ⟨j,pre,rfl,hj,hpl,hpf,hP,hB⟩:=hrel.ex
   clear hrel
   have hs1:=hB.size
   have hDr:Dg d v0 v1 (.slice a ds.length cap) wr:=⟨(hB.block d hdl).trans hD.b⟩
   obtain ⟨c0,c1,c2,cf⟩:=hDr.cell
   by_cases hjl:j<ds.length
   ·have hjI:(j:Int)<(ds.length:Int):=by omega
    have hd:ds.drop j=ds[j] :: ds.drop (j+1):=List.drop_eq_getElem_cons hjl
    by_cases hjk:j=k
    ·have HPF:Hid (pre++Pl.but k (ds.drop (j+1)) (j+1)=fin):=by rw [hd,Pl.but,if_pos hjk] at hpf;exact hpf
     have hjkI:(j:Int)=(k:Int):=by omega
     subst hjk
     clear hpf hd hjkI
     go_wp2_with fail
     exact ⟨⟨j+1,pre,by go_num,by omega,by omega,HPF.out,hP,hB⟩,by simp [intOf];omega⟩
    ·have hjkI:¬ (j:Int)=(k:Int):=by omega
     obtain ⟨g,ta,tn,tc,rfl,hgl,p0,p1,htx⟩:=HDA.out wr hB j hjl
     obtain ⟨⟨x,tx⟩,hx⟩:∃ x,ds[j]=x:=⟨_,rfl⟩
     have HPF:Hid ((pre++[(x,tx)])++Pl.but k (ds.drop (j+1)) (j+1)=fin):=by rw [hd,Pl.but,if_neg hjk,hx] at hpf;show _=_;rw [← hpf];simp
     rw [hx] at p0 htx
     simp only at p0 htx
     obtain ⟨us2,hus2,hrow2,hco2⟩:=hP.r
     have hul:us2.length≤1000:=by have:=congrArg List.length hus2;simp at this;omega
     clear hpf hd hx
     go_wp2_with (at_builtin;go_must (refine wpList_append_lies _ (by rfl) _ _ 60 (by rfl) w.heap.size 65 i0 (.agg #[.int .i64 0,.slice none 0 0]) 2 32 Tryz.underlying60 hi65 hz0 hz1 hz2 rfl (by decide) _ us2.length (us2.flatMap denc) (by rfl) (hrow2.alloc _) ⟨wr.heap.size,0,none⟩ 1 1 (denc (.slice ta tn tc,x,tx)) (by rfl) rfl (World.news_of_block (heap_alloc_new wr _)) (by simp [denc,Value.oneCell']) (by decide) (by unfold maxLen;omega) (by omega) (by simp;omega) (wr.heap.size+1) (by simp) ?_);intro gn capn w3 hown1 hgrow hat hlt1;have hB3:Below w.heap.size w w3:=Below.grown (hB.alloc hs1 _) hgrow (by simp;omega) fun j ej=>(ownBlock_lt hrow2 ej).2;have hK3:KqF 0 wr w3:=(KqF.below ((Below.refl _ wr).alloc (Nat.le_refl _) _)).trans (KqF.of_row (hrow2.alloc _) (by decide) (by decide) hgrow))
     refine ⟨⟨j+1,pre++[(x,tx)],by go_num,by omega,by simp;omega,HPF.out,⟨us2++[(.slice ta tn tc,x,tx)],by simp [hus2],?_,?_⟩,hB3⟩,by simp [intOf];omega⟩
     ·rw [denc_snoc,List.length_append]
      exact hown1
     ·intro u hu
      have hk9:∀ g cur,0≤g→wr.heap[g]?=some (Obj.cells cur 9 (0,0))→w3.heap[g]?=some (Obj.cells cur 9 (0,0)):=fun g cur h0=>hK3 g cur 9 h0 (.inl rfl)
      rcases List.mem_append.1 hu with hu | hu
      ·exact row_keep (hco2 u hu) hk9
      ·obtain rfl:=List.mem_singleton.1 hu
       exact row_keep htx hk9
   ·have hjI:¬ (j:Int)<(ds.length:Int):=by omega
    have hpr:pre=fin:=by rw [List.drop_of_length_le (show ds.length≤j by omega)] at hpf;simpa [Pl.but] using hpf
    subst hpr
    obtain ⟨la,lc,rfl⟩:=hP.len
    go_wp2_with fail
    go_ret
    refine ⟨.inr ⟨k,_,hR,hkl,rfl,hDr.set2 _,?_,?_⟩⟩
    ·rw [hfin];exact hP.set hDr.b 2 _
    ·exact grown_trans (grown_of_below (some d) hB) (grown_set _ _ _ _)
end Go.Proofs.YtcmgclckknpecaaGreatDoor
