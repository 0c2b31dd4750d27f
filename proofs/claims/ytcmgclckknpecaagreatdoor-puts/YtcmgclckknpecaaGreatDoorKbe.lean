import Derived.Test.YtcmgclckknpecaaGreatDoorKbc
import Derived.Test.YtcmgclckknpecaaGreatDoorKay
import Derived.Test.YtcmgclckknpecaaGreatDoorKbd
namespace Go.Proofs.YtcmgclckknpecaaGreatDoor
open Go.RowKit
theorem amg_iff (x:ByteArray):∀ ws:List ByteArray,Pl.amg x ws=true ↔ x∈ws
 | []=>by simp [Pl.amg]
 | y :: r=>by
  rw [Pl.amg]
  by_cases h:y=x
  ·simp [h]
  ·rw [if_neg h,amg_iff x r,List.mem_cons]
   constructor
   ·exact .inr
   ·rintro (rfl | h2)
    ·exact absurd rfl h
    ·exact h2
theorem amg_contains (x:ByteArray) (ws:List ByteArray):Pl.amg x ws=Lib.containsS ws x:=by
 rw [Bool.eq_iff_iff,amg_iff,Lib.containsS_iff]
theorem azF_asc (s:ByteArray):∀ m i,s.size≤i+m→Pl.azF s m i=true→∀ j,i≤j→j<s.size→Pl.bt s j<128
 | 0,i,h,_,j,h1,h2=>by omega
 | m+1,i,h,ha,j,h1,h2=>by
  rw [Pl.azF,if_pos (by omega),Bool.and_eq_true] at ha
  rcases Nat.eq_or_lt_of_le h1 with rfl | h3
  ·have:=ha.1
   simp [Pl.wit] at this
   omega
  ·exact azF_asc s m (i+1) (by omega) ha.2 j h3 h2
theorem ends9_asc:∀ e∈Pl.ends9,∀ x∈e.2.2.data.toList,x.toNat<128:=by decide +kernel
theorem stF_asc (s:ByteArray) (hs:∀ x∈s.data.toList,x.toNat<128):∀ l:List (ByteArray × Nat × ByteArray),(∀ e∈l,∀ x∈e.2.2.data.toList,x.toNat<128)→∀ x∈(Pl.stF s l).data.toList,x.toNat<128
 | [],_=>hs
 | (o,k,nw) :: r,hl=>by
  rw [Pl.stF_cons]
  split
  ·intro x hx
   rw [ByteArray.data_append,Array.toList_append,List.mem_append] at hx
   rcases hx with hx | hx
   ·rw [ByteArray.data_extract,Array.toList_extract] at hx
    exact hs x (List.mem_of_mem_drop (List.mem_of_mem_take hx))
   ·exact hl _ (List.mem_cons_self ..) x hx
  ·exact stF_asc s hs r (fun e he=>hl e (List.mem_cons_of_mem _ he))
theorem stm_asc (s:ByteArray) (h:Pl.stm s≠s):∀ x∈(Pl.stm s).data.toList,x.toNat<128:=by
 unfold Pl.stm at h ⊢
 rw [Pl.plF_az] at h ⊢
 by_cases hp:Pl.azF s s.size 0=true
 ·rw [if_pos hp]
  refine stF_asc s (fun x hx=>?_) _ ends9_asc
  obtain ⟨i,hi,rfl⟩:=List.getElem_of_mem hx
  have hi':i<s.size:=by rw [← ba_list];exact hi
  have:=azF_asc s s.size 0 (by omega) hp i (by omega) hi'
  rw [bt_at s i hi'] at this
  simpa [ByteArray.getElem_eq_getElem_data] using this
 ·rw [if_neg hp] at h
  exact absurd rfl h
set_option maxRecDepth 100000 in
set_option maxHeartbeats 4000000 in
theorem rstop_any (cs:List Nat) (sa:Option Addr) (sc pos F T A B:Nat) (wa pa:Option Addr) (wn wc pn pc:Nat) (w:World) (hco:CoR w (.slice sa cs.length sc) cs) (hok:∀ c∈cs,Pl.okc c) (hl:cs.length≤300000000) (gw:Nat) (ws:List ByteArray) (hX:Tx gw ws w) (hwn:wn=ws.length) (hwa:0<ws.length→wa=some ⟨gw,0,none⟩) (hgw:0<ws.length→gw<w.heap.size) (hwl:ws.length≤1000) :
  Calls Tryz.prog 80 #[.agg #[.slice sa cs.length sc,.int .i64 (pos:Int),.int .i64 (F:Int),.int .i64 (T:Int)],.agg #[.string ⟨#[115,116,111,112]⟩,.slice wa wn wc,.slice pa pn pc,.int .i64 (A:Int),.int .i64 (B:Int)]] w fun e w'=>∃ v,e=.returned v∧Tkr w.heap.size v ((if Lib.containsS ws (Pl.en cs)=true then [] else [cs]).map fun u=>(u,pos,F,T)) w'∧Below w.heap.size w w':=by
 obtain ⟨w0,hw0⟩:∃ w0,(w.alloc (.cells #[.slice sa cs.length sc,.int .i64 (pos:Int),.int .i64 (F:Int),.int .i64 (T:Int)] 128)).alloc (.cells #[.string ⟨#[115,116,111,112]⟩,.slice wa wn wc,.slice pa pn pc,.int .i64 (A:Int),.int .i64 (B:Int)] 207)=w0:=⟨_,rfl⟩
 have hT:Blk w.heap.size 128 #[.slice sa cs.length sc,.int .i64 (pos:Int),.int .i64 (F:Int),.int .i64 (T:Int)] w0:=by
  rw [← hw0]
  have h:Blk w.heap.size 128 #[.slice sa cs.length sc,.int .i64 (pos:Int),.int .i64 (F:Int),.int .i64 (T:Int)] (w.alloc (.cells #[.slice sa cs.length sc,.int .i64 (pos:Int),.int .i64 (F:Int),.int .i64 (T:Int)] 128)):=heap_alloc_new w _
  exact h.alloc _
 have hS:Blk (w.heap.size+1) 207 #[.string ⟨#[115,116,111,112]⟩,.slice wa wn wc,.slice pa pn pc,.int .i64 (A:Int),.int .i64 (B:Int)] w0:=by
  rw [← hw0]
  have h:=heap_alloc_new (w.alloc (.cells #[.slice sa cs.length sc,.int .i64 (pos:Int),.int .i64 (F:Int),.int .i64 (T:Int)] 128)) (.cells #[.string ⟨#[115,116,111,112]⟩,.slice wa wn wc,.slice pa pn pc,.int .i64 (A:Int),.int .i64 (B:Int)] 207)
  rw [World.size_alloc] at h
  exact h
 have hB0:Below w.heap.size w w0:=by rw [← hw0];exact ((Below.refl _ w).alloc (Nat.le_refl _) _).alloc (by simp) _
 have hsz0:w0.heap.size=w.heap.size+2:=by rw [← hw0];simp
 have hco0:=hco.kp (Kp.of_below hB0 (Nat.le_refl _))
 subst hwn
 rw [← amg_contains]
 obtain ⟨ca,cc,cg,hsv,hC,hca,hcg⟩:=hco0.co
 obtain ⟨rfl,_,rfl⟩:sa=ca∧cs.length=cs.length∧sc=cc:=by injection hsv with a b c;exact ⟨a,b,c⟩
 clear hsv
 obtain ⟨R,hR⟩:∃ R,Pl.amg (Pl.en cs) ws=R:=⟨_,rfl⟩
 rw [hR]
 have HR:Hid (Pl.amg (Pl.en cs) ws=R):=hR
 have HTM:Hid (∀ W,Below w0.heap.size w0 W→Calls Tryz.prog 39 #[.agg #[.slice sa cs.length sc,.int .i64 (pos:Int),.int .i64 (F:Int),.int .i64 (T:Int)]] W fun e w'=>e=.returned (.string (Pl.en cs))∧Below W.heap.size W w'):=fun W hW=>rterm_any cg sc cs sa W (hC.below hW hcg) hca (fun h=>by have:=hcg h;have:=hW.size;omega) hok (by omega) _ _ _
 have HIN:Hid (∀ W,Below w0.heap.size w0 W→Calls Tryz.prog 143 #[.slice wa ws.length wc,.string (Pl.en cs)] W fun e w'=>e=.returned (.bool R)∧w'=W):=fun W hW=>rin_any gw wc ws wa (Pl.en cs) W ⟨fun i hi=>((hB0.trans (hW.mono (by omega))).cell (p:=⟨gw,i,none⟩) (hgw (by omega))).trans (hX.c i hi)⟩ hwa hwl R hR
 clear hR hX
 go_enter Tryz.func80,Tryz.ntmps80
 obtain ⟨⟨t0,t1,t2,t3⟩,tf⟩:=hT.four
 obtain ⟨s0,s1,s2,s3,s4,sf⟩:=hS.five
 have hTl:=hT.lt
 have hSl:=hS.lt
 go_wp2_with fail
 go_region_held3 (fun w'=>w'.cell? ⟨w.heap.size,0,none⟩=some (.slice sa cs.length sc)∧w'.cell? ⟨w.heap.size,1,none⟩=some (.int .i64 (pos:Int))∧w'.cell? ⟨w.heap.size,2,none⟩=some (.int .i64 (F:Int))∧w'.cell? ⟨w.heap.size,3,none⟩=some (.int .i64 (T:Int))∧w'.cell? ⟨w.heap.size+1,1,none⟩=some (.slice wa ws.length wc)∧Below w0.heap.size w0 w') (first | (obtain ⟨⟨t0,t1,t2,t3⟩,_⟩:=(hT.below hB1).four;obtain ⟨s0,s1,s2,s3,s4,sf⟩:=(hS.below hB1).five;exact ⟨t0,t1,t2,t3,s1,hB1⟩) | (refine ⟨?_,?_,?_,?_,?_,?_⟩ <;> first | exact (Below.refl _ w0).drew | go_keep) | go_keep) (first | (go_at_call 39;refine (HTM.out _ (by first | assumption | exact (Below.refl _ w0).drew)).mono ?_;rintro e w1 ⟨rfl,h1⟩;have hB1:Below w0.heap.size w0 w1:=(Below.refl _ w0).drew.trans h1) | (go_at_call 143;refine (HIN.out _ (by assumption)).mono ?_;rintro e w2 ⟨rfl,hw⟩;rw [hw];clear hw w2))
 obtain ⟨⟨b0,b1,b2,b3⟩,bf⟩:=(hT.below hB1).four
 have hs1:=hB1.size
 cases R with
 | true =>
  go_wp2_with fail
  go_ret
  exact ⟨_,rfl,Tkr.nil _ _,hB0.trans (hB1.mono (by omega))⟩
 | false =>
  go_wp2_with fail
  go_ret
  exact ⟨_,rfl,Tkr.one (base:=w.heap.size) (w:=w1) (by omega) (hco0.kp (Kp.of_below hB1 (Nat.le_refl _))),(hB0.trans (hB1.mono (by omega))).alloc (by omega) _⟩
set_option maxRecDepth 100000 in
set_option maxHeartbeats 4000000 in
theorem rstem_late (cs:List Nat) (sa:Option Addr) (sc pos F T A B:Nat) (wa pa:Option Addr) (wn wc pn pc:Nat) (w:World) (hco:CoR w (.slice sa cs.length sc) cs) (hok:∀ c∈cs,Pl.okc c) (hl:cs.length≤300000000) :
  Calls Tryz.prog 80 #[.agg #[.slice sa cs.length sc,.int .i64 (pos:Int),.int .i64 (F:Int),.int .i64 (T:Int)],.agg #[.string ⟨#[115,116,101,109]⟩,.slice wa wn wc,.slice pa pn pc,.int .i64 (A:Int),.int .i64 (B:Int)]] w fun e w'=>∃ v,e=.returned v∧Tkr w.heap.size v ([Pl.dc (Pl.stm (Pl.en cs))].map fun u=>(u,pos,F,T)) w'∧Below w.heap.size w w':=by
 obtain ⟨w0,hw0⟩:∃ w0,(w.alloc (.cells #[.slice sa cs.length sc,.int .i64 (pos:Int),.int .i64 (F:Int),.int .i64 (T:Int)] 128)).alloc (.cells #[.string ⟨#[115,116,101,109]⟩,.slice wa wn wc,.slice pa pn pc,.int .i64 (A:Int),.int .i64 (B:Int)] 207)=w0:=⟨_,rfl⟩
 have hT:Blk w.heap.size 128 #[.slice sa cs.length sc,.int .i64 (pos:Int),.int .i64 (F:Int),.int .i64 (T:Int)] w0:=by
  rw [← hw0]
  have h:Blk w.heap.size 128 #[.slice sa cs.length sc,.int .i64 (pos:Int),.int .i64 (F:Int),.int .i64 (T:Int)] (w.alloc (.cells #[.slice sa cs.length sc,.int .i64 (pos:Int),.int .i64 (F:Int),.int .i64 (T:Int)] 128)):=heap_alloc_new w _
  exact h.alloc _
 have hS:Blk (w.heap.size+1) 207 #[.string ⟨#[115,116,101,109]⟩,.slice wa wn wc,.slice pa pn pc,.int .i64 (A:Int),.int .i64 (B:Int)] w0:=by
  rw [← hw0]
  have h:=heap_alloc_new (w.alloc (.cells #[.slice sa cs.length sc,.int .i64 (pos:Int),.int .i64 (F:Int),.int .i64 (T:Int)] 128)) (.cells #[.string ⟨#[115,116,101,109]⟩,.slice wa wn wc,.slice pa pn pc,.int .i64 (A:Int),.int .i64 (B:Int)] 207)
  rw [World.size_alloc] at h
  exact h
 have hB0:Below w.heap.size w w0:=by rw [← hw0];exact ((Below.refl _ w).alloc (Nat.le_refl _) _).alloc (by simp) _
 have hsz0:w0.heap.size=w.heap.size+2:=by rw [← hw0];simp
 have hco0:=hco.kp (Kp.of_below hB0 (Nat.le_refl _))
 obtain ⟨ca,cc,cg,hsv,hC,hca,hcg⟩:=hco0.co
 obtain ⟨rfl,_,rfl⟩:sa=ca∧cs.length=cs.length∧sc=cc:=by injection hsv with a b c;exact ⟨a,b,c⟩
 clear hsv
 have HTM:Hid (∀ W,Below w0.heap.size w0 W→Calls Tryz.prog 39 #[.agg #[.slice sa cs.length sc,.int .i64 (pos:Int),.int .i64 (F:Int),.int .i64 (T:Int)]] W fun e w'=>e=.returned (.string (Pl.en cs))∧Below W.heap.size W w'):=fun W hW=>rterm_any cg sc cs sa W (hC.below hW hcg) hca (fun h=>by have:=hcg h;have:=hW.size;omega) hok (by omega) _ _ _
 have hen:(Pl.en cs).size≤1200000000:=by rw [Pl.en_size];have:=(Pl.eb_le cs).2;omega
 obtain ⟨x,hx⟩:∃ x,Pl.stm (Pl.en cs)=x:=⟨_,rfl⟩
 have HST:Hid (∀ W,Calls Tryz.prog 141 #[.string (Pl.en cs)] W fun e w'=>e=.returned (.string x)∧Below W.heap.size W w'):=fun W=>by rw [← hx];exact rstem_any (Pl.en cs) W (by omega)
 go_enter Tryz.func80,Tryz.ntmps80
 obtain ⟨⟨t0,t1,t2,t3⟩,tf⟩:=hT.four
 obtain ⟨s0,s1,s2,s3,s4,sf⟩:=hS.five
 have hTl:=hT.lt
 rw [hx]
 by_cases hne:x=Pl.en cs
 ·have he:Pl.dc x=cs:=by rw [hne];exact Pl.dc_en cs hok
  have heq:(x.toList == (Pl.en cs).toList)=true:=by rw [hne];simp
  rw [he]
  clear hne he hx
  go_wp2_with fail
  refine (HTM.out _ (Below.refl _ _)).mono ?_
  rintro e w1 ⟨rfl,h1⟩
  go_wp2_with fail
  refine (HST.out _).mono ?_
  rintro e w2 ⟨rfl,h2⟩
  have hB2:Below w0.heap.size w0 w2:=h1.trans (h2.mono h1.size)
  have hs2:=hB2.size
  obtain ⟨⟨b0,b1,b2,b3⟩,bf⟩:=(hT.below hB2).four
  go_wp2_with fail
  go_ret
  exact ⟨_,rfl,Tkr.one (base:=w.heap.size) (w:=w2) (by omega) (hco0.kp (Kp.of_below hB2 (Nat.le_refl _))),(hB0.trans (hB2.mono (by omega))).alloc (by omega) _⟩
 ·have hasc:∀ y∈x.data.toList,y.toNat<128:=by
   have:=stm_asc (Pl.en cs) (by rw [hx];exact hne)
   rw [hx] at this;exact this
  have he:Pl.dc x=Pl.bc x:=Pl.dc_bc x hasc
  have hxs:x.size≤1300000000:=by
   obtain ⟨ds,hd,hde,_,hdl⟩:=Pl.stm_ok cs hok
   rw [← hx,hde,Pl.en_size]
   have:=(Pl.eb_le ds).2
   omega
  have heq:(x.toList == (Pl.en cs).toList)=false:=by
   rw [beq_eq_false_iff_ne]
   intro h
   rw [ByteArray.toList_eq,ByteArray.toList_eq] at h
   exact hne (ByteArray.ext (Array.toList_inj.1 h))
  rw [he]
  have HCD:Hid (∀ W,Calls Tryz.prog 142 #[.string x] W fun e w'=>∃ v,e=.returned v∧CoR w' v (Pl.bc x)∧Below W.heap.size W w'):=fun W=>rcodes_any x W (by omega)
  clear hne he hx hasc
  go_wp2_with fail
  refine (HTM.out _ (Below.refl _ _)).mono ?_
  rintro e w1 ⟨rfl,h1⟩
  go_wp2_with fail
  refine (HST.out _).mono ?_
  rintro e w2 ⟨rfl,h2⟩
  have hB2:Below w0.heap.size w0 w2:=h1.trans (h2.mono h1.size)
  have hs2:=hB2.size
  obtain ⟨⟨b0,b1,b2,b3⟩,bf⟩:=(hT.below hB2).four
  go_wp2_with fail
  go_region_held3 (fun w'=>w'.cell? ⟨w.heap.size,1,none⟩=some (.int .i64 (pos:Int))∧w'.cell? ⟨w.heap.size,2,none⟩=some (.int .i64 (F:Int))∧w'.cell? ⟨w.heap.size,3,none⟩=some (.int .i64 (T:Int))) (first | exact ⟨d1,d2,d3⟩ | go_keep) ((go_at_call 142;refine (HCD.out _).mono ?_;rintro e w3 ⟨v,rfl,hcr,h3⟩;obtain ⟨va,vc,vg,rfl,_⟩:=hcr.co;have hB3:Below w0.heap.size w0 w3:=hB2.drew.trans (h3.mono hs2);obtain ⟨⟨d0,d1,d2,d3⟩,df⟩:=(hT.below hB3).four;have hs3:=hB3.size))
  go_wp2_with fail
  go_ret
  exact ⟨_,rfl,Tkr.one (base:=w.heap.size) (w:=w3) (by omega) hcr,(hB0.trans (hB3.mono (by omega))).alloc (by omega) _⟩
end Go.Proofs.YtcmgclckknpecaaGreatDoor
namespace Go.Proofs.YtcmgclckknpecaaGreatDoor
open Go.RowKit
set_option maxRecDepth 100000 in
set_option maxHeartbeats 4000000 in
theorem rsyn_any (cs:List Nat) (sa:Option Addr) (sc pos F T A B:Nat) (wa pa:Option Addr) (wn wc pn pc:Nat) (w:World) (hco:CoR w (.slice sa cs.length sc) cs) (hok:∀ c∈cs,Pl.okc c) (hl:cs.length≤300000000) (gp:Nat) (ps:List (ByteArray × ByteArray)) (hP:Prw gp ps w) (hpn:pn=ps.length) (hpa:0<ps.length→pa=some ⟨gp,0,none⟩) (hgp:0<ps.length→gp<w.heap.size) (hp1:∀ p∈ps,p.2.size≤8) (hpl:ps.length≤1000) :
  Calls Tryz.prog 80 #[.agg #[.slice sa cs.length sc,.int .i64 (pos:Int),.int .i64 (F:Int),.int .i64 (T:Int)],.agg #[.string ⟨#[115,121,110]⟩,.slice wa wn wc,.slice pa pn pc,.int .i64 (A:Int),.int .i64 (B:Int)]] w fun e w'=>∃ v,e=.returned v∧Tkr w.heap.size v ((cs :: (Pl.syF (Pl.en cs) ps).map Pl.bc).map fun u=>(u,pos,F,T)) w'∧Below w.heap.size w w':=by
 obtain ⟨w0,hw0⟩:∃ w0,(w.alloc (.cells #[.slice sa cs.length sc,.int .i64 (pos:Int),.int .i64 (F:Int),.int .i64 (T:Int)] 128)).alloc (.cells #[.string ⟨#[115,121,110]⟩,.slice wa wn wc,.slice pa pn pc,.int .i64 (A:Int),.int .i64 (B:Int)] 207)=w0:=⟨_,rfl⟩
 have hT:Blk w.heap.size 128 #[.slice sa cs.length sc,.int .i64 (pos:Int),.int .i64 (F:Int),.int .i64 (T:Int)] w0:=by
  rw [← hw0]
  have h:Blk w.heap.size 128 #[.slice sa cs.length sc,.int .i64 (pos:Int),.int .i64 (F:Int),.int .i64 (T:Int)] (w.alloc (.cells #[.slice sa cs.length sc,.int .i64 (pos:Int),.int .i64 (F:Int),.int .i64 (T:Int)] 128)):=heap_alloc_new w _
  exact h.alloc _
 have hS:Blk (w.heap.size+1) 207 #[.string ⟨#[115,121,110]⟩,.slice wa wn wc,.slice pa pn pc,.int .i64 (A:Int),.int .i64 (B:Int)] w0:=by
  rw [← hw0]
  have h:=heap_alloc_new (w.alloc (.cells #[.slice sa cs.length sc,.int .i64 (pos:Int),.int .i64 (F:Int),.int .i64 (T:Int)] 128)) (.cells #[.string ⟨#[115,121,110]⟩,.slice wa wn wc,.slice pa pn pc,.int .i64 (A:Int),.int .i64 (B:Int)] 207)
  rw [World.size_alloc] at h
  exact h
 have hB0:Below w.heap.size w w0:=by rw [← hw0];exact ((Below.refl _ w).alloc (Nat.le_refl _) _).alloc (by simp) _
 have hsz0:w0.heap.size=w.heap.size+2:=by rw [← hw0];simp
 have hco0:=hco.kp (Kp.of_below hB0 (Nat.le_refl _))
 obtain ⟨ca,cc,cg,hsv,hC,hca,hcg⟩:=hco0.co
 obtain ⟨rfl,_,rfl⟩:sa=ca∧cs.length=cs.length∧sc=cc:=by injection hsv with a b c;exact ⟨a,b,c⟩
 clear hsv
 have HTM:Hid (∀ W,Below w0.heap.size w0 W→Calls Tryz.prog 39 #[.agg #[.slice sa cs.length sc,.int .i64 (pos:Int),.int .i64 (F:Int),.int .i64 (T:Int)]] W fun e w'=>e=.returned (.string (Pl.en cs))∧Below W.heap.size W w'):=fun W hW=>rterm_any cg sc cs sa W (hC.below hW hcg) hca (fun h=>by have:=hcg h;have:=hW.size;omega) hok (by omega) _ _ _
 obtain ⟨i0,hi,hz0,hz1,hz2⟩:=info_parts info128
 subst hpn
 have hP0:=hP.below hB0 hgp
 have hgp0:0<ps.length→gp<w0.heap.size:=fun h=>by have:=hgp h;omega
 obtain ⟨fin,hfin⟩:∃ fin,(cs :: (Pl.syF (Pl.en cs) ps).map Pl.bc)=fin:=⟨_,rfl⟩
 rw [hfin]
 have HF:Hid ([cs]++(Pl.syF (Pl.en cs) (ps.drop 0)).map Pl.bc=fin):=hfin
 clear hfin
 have hO0:=Tkr.one (base:=w0.heap.size) (w:=w0) (pos:=pos) (F:=F) (T:=T) (Nat.le_refl _) hco0
 have hBO:Below w0.heap.size w0 (w0.alloc (.cells #[.slice sa cs.length sc,.int .i64 (pos:Int),.int .i64 (F:Int),.int .i64 (T:Int)] 128)):=(Below.refl _ w0).alloc (Nat.le_refl _) _
 go_enter Tryz.func80,Tryz.ntmps80
 obtain ⟨⟨t0,t1,t2,t3⟩,tf⟩:=hT.four
 obtain ⟨s0,s1,s2,s3,s4,sf⟩:=hS.five
 go_wp2_with fail
 go_loopw [9,10] (fun ov kv wr=>∃ (q:Nat) (pre:List (List Nat)),kv=.int .i64 (q:Int)∧q≤ps.length∧pre.length≤q+1∧Hid (pre++(Pl.syF (Pl.en cs) (ps.drop q)).map Pl.bc=fin)∧Tkr w0.heap.size ov (pre.map fun u=>(u,pos,F,T)) wr∧Below w0.heap.size w0 wr) (fun _ kv _=>ps.length - (intOf kv).toNat)
 case atStart=>exact ⟨0,[cs],rfl,by omega,by simp,HF,by first | exact hO0 | (rw [hsz0] at hO0 ⊢;exact hO0),hBO⟩
 case round =>
  clear hO0 hBO t0 t1 t2 t3 tf s0 s1 s2 s3 s4 sf hw0 HF
  obtain ⟨q,pre,rfl,hq,hprl,HX,hTk,hB1⟩:=hrel
  obtain ⟨w1,hw1⟩:∃ w1,w1=wr:=⟨_,rfl⟩
  subst hw1
  have hs1:=hB1.size
  obtain ⟨⟨a0,a1,a2,a3⟩,af⟩:=(hT.below hB1).four
  obtain ⟨e0,e1,e2,e3,e4,ef⟩:=(hS.below hB1).five
  by_cases hql:q<ps.length
  ·have hqI:(q:Int)<(ps.length:Int):=by omega
   obtain rfl:=hpa (by omega)
   obtain ⟨p0,p1⟩:=(hP0.below hB1 hgp0).c q hql
   have hr8:=hp1 _ (List.getElem_mem hql)
   obtain ⟨⟨pl,pr⟩,hpk⟩:∃ x,ps[q]=x:=⟨_,rfl⟩
   have hd:ps.drop q=(pl,pr) :: ps.drop (q+1):=by rw [← hpk];exact List.drop_eq_getElem_cons hql
   rw [hpk] at p0 p1 hr8
   simp only at p0 p1 hr8
   have hX:=HX.out
   rw [hd,Pl.syF] at hX
   simp only at hX
   have HP2:Hid (∀ W,Below w0.heap.size w0 W→W.cell? ⟨gp,q*2,none⟩=some (.string pl)∧W.cell? ⟨gp,q*2+1,none⟩=some (.string pr)):=fun W hW=>by
    have:=(hP0.below hW hgp0).c q hql
    rw [hpk] at this;exact this
   obtain ⟨E,hE⟩:∃ E,(pl.toList == (Pl.en cs).toList)=E:=⟨_,rfl⟩
   rw [hE] at hX
   clear hd HX
   go_wp2_with fail
   go_region_held3 (fun w'=>w'.cell? ⟨w.heap.size,0,none⟩=some (.slice sa cs.length sc)∧w'.cell? ⟨w.heap.size,1,none⟩=some (.int .i64 (pos:Int))∧w'.cell? ⟨w.heap.size,2,none⟩=some (.int .i64 (F:Int))∧w'.cell? ⟨w.heap.size,3,none⟩=some (.int .i64 (T:Int))∧w'.cell? ⟨w.heap.size+1,2,none⟩=some (.slice (some ⟨gp,0,none⟩) ps.length pc)∧w'.cell? ⟨gp,q*2,none⟩=some (.string pl)) (first | exact ⟨c0,c1,c2,c3,d2,k0⟩ | go_keep) ((go_at_call 39;refine (HTM.out _ hB1.drew).mono ?_;rintro e w2 ⟨rfl,h2⟩;have hB2:Below w0.heap.size w0 w2:=hB1.drew.trans (h2.mono hs1);obtain ⟨⟨c0,c1,c2,c3⟩,cf⟩:=(hT.below hB2).four;obtain ⟨d0,d1,d2,d3,d4,df⟩:=(hS.below hB2).five;obtain ⟨k0,k1⟩:=HP2.out _ hB2;have hs2:=hB2.size))
   have hTk2:=hTk.below (show Below w1.heap.size w1 w2 from (Below.refl _ w1).drew.trans h2)
   cases E with
   | false =>
    have HX2:Hid (pre++(Pl.syF (Pl.en cs) (ps.drop (q+1))).map Pl.bc=fin):=by rw [if_neg (by simp)] at hX;exact hX
    clear hX
    go_wp2_with fail
    exact ⟨⟨q+1,pre,by go_num,by omega,by omega,HX2,hTk2,hB2⟩,by simp [intOf];omega⟩
   | true =>
    have HX2:Hid ((pre++[Pl.bc pr])++(Pl.syF (Pl.en cs) (ps.drop (q+1))).map Pl.bc=fin):=by rw [if_pos rfl] at hX;show _=_;rw [← hX];simp
    clear hX
    have HCD:Hid (∀ W,Calls Tryz.prog 142 #[.string pr] W fun e w'=>∃ v,e=.returned v∧CoR w' v (Pl.bc pr)∧Below W.heap.size W w'):=fun W=>rcodes_any pr W (by omega)
    obtain ⟨us,hus,hrow2,hco2⟩:=hTk2.r
    have hul:us.length≤2000:=by have:=congrArg List.length hus;simp at this;omega
    go_wp2_with fail
    go_region_held3 (fun w'=>w'.cell? ⟨w.heap.size,1,none⟩=some (.int .i64 (pos:Int))∧w'.cell? ⟨w.heap.size,2,none⟩=some (.int .i64 (F:Int))∧w'.cell? ⟨w.heap.size,3,none⟩=some (.int .i64 (T:Int))∧w'.cell? ⟨w.heap.size+1,2,none⟩=some (.slice (some ⟨gp,0,none⟩) ps.length pc)∧w'.cell? ⟨gp,q*2+1,none⟩=some (.string pr)) (first | exact ⟨f1,f2,f3,g2,hp41⟩ | exact ⟨x1,x2,x3,y2,z1⟩ | go_keep) ((first | (refine step_append_lies _ (by rfl) _ _ 28 (by rfl) w0.heap.size 128 i0 (.agg #[.slice none 0 0,.int .i64 0,.int .i64 0,.int .i64 0]) 4 48 Tryz.underlying28 hi hz0 hz1 hz2 rfl (by decide) _ us.length (us.flatMap enc4) (by rfl) (hrow3.alloc _) ⟨w3.heap.size,0,none⟩ 1 1 (enc4 (.slice va (Pl.bc pr).length vc,Pl.bc pr,pos,F,T)) (by rfl) rfl (World.news_of_block (cs:=#[.slice va (Pl.bc pr).length vc,.int .i64 (pos:Int),.int .i64 (F:Int),.int .i64 (T:Int)]) (t:=128) (fr:=(0,0)) (heap_alloc_new w3 _)) (by simp [enc4,Value.oneCell']) (by decide) (by unfold maxLen;omega) (by omega) (by simp;omega) (w3.heap.size+1) (by simp) ?_;intro gn capn w4 hown1 hgrow hat hlt1;have hB4:Below w0.heap.size w0 w4:=Below.grown (hB3.alloc hs3 _) hgrow (by simp;omega) fun j ej=>(ownBlock_lt hrow3 ej).2;have hK4:Kp w3 w4:=(Kp.alloc w3 _).trans (Kp.of_grown (hrow3.alloc _) (by decide) hgrow);obtain ⟨⟨f0,f1,f2,f3⟩,ff⟩:=(hT.below hB4).four;obtain ⟨g0,g1,g2,g3,g4,gf⟩:=(hS.below hB4).five;have hP4:=((hP0.below hB4 fun h=>by have:=hgp0 h;omega).c q hql);rw [hpk] at hP4;have hp41:=hP4.2;have hp40:=hP4.1;clear hP4) | (go_at_call 142;refine (HCD.out _).mono ?_;rintro e w3 ⟨v,rfl,hcr,h3⟩;obtain ⟨va,vc,vg,rfl,_⟩:=hcr.co;have hB3:Below w0.heap.size w0 w3:=hB2.drew.trans (h3.mono hs2);obtain ⟨⟨x0,x1,x2,x3⟩,xf⟩:=(hT.below hB3).four;obtain ⟨y0,y1,y2,y3,y4,yf⟩:=(hS.below hB3).five;obtain ⟨z0,z1⟩:=HP2.out _ hB3;have hs3:=hB3.size;have hrow3:=ownsRow_below hrow2 (show Below w2.heap.size w2 w3 from (Below.refl _ w2).drew.trans h3))))
    go_wp2_with fail
    refine ⟨⟨q+1,pre++[Pl.bc pr],by go_num,by omega,by simp;omega,HX2,⟨us++[(.slice va (Pl.bc pr).length vc,Pl.bc pr,pos,F,T)],by simp [hus],?_,?_⟩,hB4⟩,by simp [intOf];omega⟩
    ·rw [enc4_snoc,List.length_append]
     exact hown1
    ·intro u hu
     rcases List.mem_append.1 hu with hu | hu
     ·exact (hco2 u hu).kp ((Kp.of_below (show Below w2.heap.size w2 w3 from (Below.refl _ w2).drew.trans h3) (Nat.le_refl _)).trans hK4)
     ·obtain rfl:=List.mem_singleton.1 hu
      exact hcr.kp hK4
  ·have hqI:¬ (q:Int)<(ps.length:Int):=by omega
   have hx:pre=fin:=by have:=HX.out;rw [List.drop_of_length_le (show ps.length≤q by omega),Pl.syF] at this;simpa using this
   subst hx
   go_wp2_with fail
   go_ret
   exact ⟨_,rfl,hTk.base (by omega),hB0.trans (hB1.mono (by omega))⟩
end Go.Proofs.YtcmgclckknpecaaGreatDoor
