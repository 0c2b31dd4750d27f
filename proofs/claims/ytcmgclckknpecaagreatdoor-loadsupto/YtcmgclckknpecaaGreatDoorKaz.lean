import Derived.Test.YtcmgclckknpecaaGreatDoorKas
import Derived.Test.YtcmgclckknpecaaGreatDoorKay
namespace Go.Proofs.YtcmgclckknpecaaGreatDoor
open Go.RowKit Go.Shelf
attribute [local go_sem] Oper.semAt_some
theorem keepO_append {V w1:World} {B n0 size k m:Nat} {e:TypeId} {xs:List Value} {v v':Value} {tmp:Obj} (hrow:V.ownsRow n0 e size v k xs) (hgrow:(V.alloc tmp).grownBy w1 v.ownBlock):KeepO B e m V (w1.setCell ⟨B,0,none⟩ v') :=
 ⟨by have:=hgrow.size;simp at this ⊢;omega,fun j o hj ho hp=>by
  have hlt:=(Array.getElem?_eq_some_iff.1 ho).1
  have h1:(V.alloc tmp).heap[j]?=some o:=(Below.heap_alloc V tmp j hlt).trans ho
  have hne:some j≠v.ownBlock:=fun he=>by
   obtain ⟨c,fz,hc⟩:=row_block hrow he.symm
   rw [ho] at hc
   cases hc
   rcases hp with hp | hp | hp
   ·cases hp
   ·exact hp.2 _ _ rfl
   ·cases hp.2
  have h2:w1.heap[j]?=some o:=(hgrow.block j (by simp;omega) hne).trans h1
  exact (Below.heap_setCell _ _ _ _ hj).trans h2⟩
set_option maxRecDepth 100000 in
set_option maxHeartbeats 4000000 in
theorem changeO_in (NN n:Nat) (hn:4≤n) (F:Nat) (lbF:Array Value) (eF:∀ args w,(callFunc F args).run Tryz.prog w=.ok (.enter F args) w) (g cap:Nat) (ts:List Tk) (a:Option Addr) (ha:0<ts.length→a=some ⟨g,0,none⟩) (w:World) (hg:0<ts.length→g<w.heap.size) (hT:Tr g ts w) (hl:ts.length≤300) (tf:ByteArray→List ByteArray)
  (HT:Hid (∀ (k:Nat) (hk:k<ts.length) (W:World),Below w.heap.size w W→CallsIn Fence.wide (n - 1) Tryz.prog F (#[.string (ts[k]).1]++lbF) W fun e W'=>∃ gf lb,e=.returned (.func (.func gf) #[] lb)∧Below W.heap.size W W'∧(∀ args w,(callFunc gf args).run Tryz.prog w=.ok (.enter gf args) w) ∧
   ∀ B,w.heap.size≤B→B<W.heap.size→SeqStopsO Fence.wide (n - 1) Tryz.prog gf lb encs1 (KeepO B 27) (fun ys=>ys=tf (ts[k]).1) (fun pre=>pre <+: tf (ts[k]).1) NN W')) :
  CallsIn Fence.wide n Tryz.prog 68 #[.slice a ts.length cap,.agg #[.func (.func F) #[] lbF]] w fun e W' =>
   (((Pl.chg tf ts).length≤300∧∃ v,e=.returned (.tuple #[v,.bool true])∧W'.ownsRow w.heap.size 27 4 v (Pl.chg tf ts).length ((Pl.chg tf ts).flatMap tenc))∨(300<(Pl.chg tf ts).length∧e=.returned (.tuple #[.slice none 0 0,.bool false])))∧Below w.heap.size w W':=by
 have h1:1≤n:=by omega
 obtain ⟨i0,hi,hz0,hz1,hz2⟩:=info_parts info27t
 refine callsIn_of_wp_marks Tryz.func68 rfl trivial ?_ rfl
 simp only [Tryz.ntmps68,List.size_toArray,List.length_cons,List.length_nil,Nat.reduceAdd,Nat.reduceSub,Array.replicate_succ,Array.replicate_zero,List.push_toArray,List.append_toArray,List.nil_append,List.cons_append]
 gi_wp2_with fail
 obtain ⟨W0,hW0⟩:∃ W0,((((w.alloc (.cells #[.func (.func F) #[] lbF] 194)).alloc (.cells #[.slice none 0 0] 22)).alloc (.cells #[.bool false] 4)).alloc (.cells #[.slice none 0 0] 22))=W0:=⟨_,rfl⟩
 rw [hW0]
 have hsz0:W0.heap.size=w.heap.size+4:=by rw [← hW0];simp
 have hB0:Below w.heap.size w W0:=by
  rw [← hW0]
  exact (((Below.refl _ w).alloc (Nat.le_refl _) _).alloc (by simp) _).alloc (by simp;omega) _ |>.alloc (by simp;omega) _
 have b0:Boxed W0 w.heap.size 194 (.func (.func F) #[] lbF):=by
  rw [← hW0]
  exact (((Boxed.new w 194 (.func (.func F) #[] lbF)).alloc _).alloc _).alloc _
 have b1:Boxed W0 (w.heap.size+1) 22 (.slice none 0 0):=by
  rw [← hW0]
  have:=Boxed.new (w.alloc (.cells #[.func (.func F) #[] lbF] 194)) 22 (.slice none 0 0)
  exact ((by simpa using this:Boxed _ (w.heap.size+1) 22 (.slice none 0 0)).alloc _).alloc _
 have b2:Boxed W0 (w.heap.size+1+1) 4 (.bool false):=by
  rw [← hW0]
  have:=Boxed.new ((w.alloc (.cells #[.func (.func F) #[] lbF] 194)).alloc (.cells #[.slice none 0 0] 22)) 4 (.bool false)
  exact (by simpa using this:Boxed _ (w.heap.size+1+1) 4 (.bool false)).alloc _
 have b3:Boxed W0 (w.heap.size+1+1+1) 22 (.slice none 0 0):=by
  rw [← hW0]
  have:=Boxed.new (((w.alloc (.cells #[.func (.func F) #[] lbF] 194)).alloc (.cells #[.slice none 0 0] 22)).alloc (.cells #[.bool false] 4)) 22 (.slice none 0 0)
  simpa using this
 clear hW0
 refine wpIn_loop (fun a' W=>∃ (k:Nat) (Ds:List Nat) (v u8 u9 u13 u14 u15 u16 u17 u18 u19 u20 u21 u22 u23 u24 u25 u26 u27 u28 u29 u30 u31 u32 u33 u34 u35 u36 u37:Value),a'={ tmps:=#[.slice a ts.length cap,.agg #[.func (.func F) #[] lbF],undef,.pointer (some ⟨w.heap.size,0,none⟩),.pointer (some ⟨w.heap.size+1,0,none⟩),.pointer (some ⟨w.heap.size+1+1,0,none⟩),.pointer (some ⟨w.heap.size+1+1+1,0,none⟩),undef,u8,u9,.slice a ts.length cap,.int .i64 (ts.length:Int),.int .i64 (k:Int),u13,u14,u15,u16,u17,u18,u19,u20,u21,u22,u23,u24,u25,u26,u27,u28,u29,u30,u31,u32,u33,u34,u35,u36,u37],defers:=Ds.map fun D=>{ target:=.collected D,args:=#[] } }∧k≤ts.length∧Ds.Nodup∧(∀ D∈Ds,w.heap.size≤D∧W.heap[D]?=some (.deferred (some []))) ∧
  Boxed W w.heap.size 194 (.func (.func F) #[] lbF)∧Boxed W (w.heap.size+1) 22 (.slice none 0 0)∧Boxed W (w.heap.size+1+1) 4 (.bool false)∧Boxed W (w.heap.size+1+1+1) 22 v∧W.ownsRow w.heap.size 27 4 v (Pl.chg tf (ts.take k)).length ((Pl.chg tf (ts.take k)).flatMap tenc)∧(Pl.chg tf (ts.take k)).length≤300∧Below w.heap.size w W)
  (fun a' _=>ts.length - (intOf (a'.tmps.getD 12 undef)).toNat) ?start ?round
 case start =>
  exact ⟨0,[],.slice none 0 0,_,_,_,_,_,_,_,_,_,_,_,_,_,_,_,_,_,_,_,_,_,_,_,_,_,_,_,rfl,by omega,by simp,by simp,b0,b1,b2,b3,World.ownsRow_nil _ _ _ _,by simp [Pl.chg],hB0⟩
 case round =>
  rintro _ W ⟨k,Ds,v,u8,u9,u13,u14,u15,u16,u17,u18,u19,u20,u21,u22,u23,u24,u25,u26,u27,u28,u29,u30,u31,u32,u33,u34,u35,u36,u37,rfl,hk,hnd,hDs,d0,d1,d2,d3,hrow,h300,hB⟩
  by_cases hkl:k<ts.length
  ·have hkI:(k:Int)<(ts.length:Int):=by omega
   obtain rfl:=ha (by omega)
   obtain ⟨c0,c1,c2,c3⟩:=(hT.below hB hg).c k hkl
   obtain ⟨T,hTk⟩:∃ T,ts[k]=T:=⟨_,rfl⟩
   have hTT:=fun W h=>HT.out k hkl W h
   rw [hTk] at c0 c1 c2 c3 hTT
   have e0:=(d0.alloc (.cells #[.string T.1,.int .i64 (T.2.1:Int),.int .i64 (T.2.2.1:Int),.int .i64 (T.2.2.2:Int)] 27)).cell
   gi_wp2_with fail
   refine ⟨trivial,?_⟩
   have hBa:Below w.heap.size w (W.alloc (.cells #[.string T.1,.int .i64 (T.2.1:Int),.int .i64 (T.2.2.1:Int),.int .i64 (T.2.2.2:Int)] 27)):=hB.alloc hB.size _
   refine (hTT _ hBa).mono ?_
   rintro e W1 ⟨gf,lb,rfl,hB1,egf,hseq⟩
   have hs1:=hB1.size
   simp only [World.size_alloc] at hs1
   have hBW:Below W.heap.size W W1:=((Below.refl W.heap.size W).alloc (Nat.le_refl _) _).trans (hB1.mono (by simp))
   have tb:W1.heap[W.heap.size]?=some (.cells #[.string T.1,.int .i64 (T.2.1:Int),.int .i64 (T.2.2.1:Int),.int .i64 (T.2.2.2:Int)] 27 (0,0)):=(hB1.block W.heap.size (by simp)).trans (heap_alloc_new W _)
   have f0:=boxed_below d0 hBW
   have f1:=boxed_below d1 hBW
   have f2:=boxed_below d2 hBW
   have f3:=boxed_below d3 hBW
   have hrow1:=ownsRow_below hrow hBW
   have hBw1:Below w.heap.size w W1:=hB.trans (hBW.mono hB.size)
   have hDlt:∀ D∈Ds,D<W1.heap.size:=fun D hD=>by have:=(Array.getElem?_eq_some_iff.1 (hDs D hD).2).1;omega
   have hDs1:∀ D∈Ds,W1.heap[D]?=some (.deferred (some [])):=fun D hD=>(hBW.block D (Array.getElem?_eq_some_iff.1 (hDs D hD).2).1).trans (hDs D hD).2
   have hvo:v.ownBlock≠some W.heap.size:=fun e=>by have:=(ownBlock_lt hrow e).1;omega
   obtain ⟨acc,hacc⟩:∃ acc,Pl.chg tf (ts.take k)=acc:=⟨_,rfl⟩
   rw [hacc] at hrow hrow1 h300
   gi_wp2_with fail
   refine wpIn_range_O rfl h1 (gf:=gf) (lb:=lb) rfl trivial egf (hseq (w.heap.size+1+1+1) (by omega) (by have:=d3.lt;simp;omega)) KeepO.trans (fun _ W l o o' h=>keepO_put W l o o' h) (Below.refl _ _) (fun _=>rfl)
    (fun (pre:List ByteArray) V=>((∃ v,Boxed V (w.heap.size+1+1+1) 22 v∧V.ownsRow w.heap.size 27 4 v (acc.length+pre.length) ((acc++pre.map fun u=>(u,T.2)).flatMap tenc)∧(acc.length+pre.length≤300∧v.ownBlock≠some W.heap.size))∧Boxed V w.heap.size 194 (.func (.func F) #[] lbF)∧Boxed V (w.heap.size+1) 22 (.slice none 0 0)∧Boxed V (w.heap.size+1+1) 4 (.bool false)∧V.heap[W.heap.size]?=some (.cells #[.string T.1,.int .i64 (T.2.1:Int),.int .i64 (T.2.2.1:Int),.int .i64 (T.2.2.2:Int)] 27 (0,0)))∧Below w.heap.size w V∧(∀ D∈Ds,V.heap[D]?=some (.deferred (some []))))
    (fun c pre V=>(c=.ret∧300<acc.length+pre.length∧Boxed V (w.heap.size+1) 22 (.slice none 0 0)∧Boxed V (w.heap.size+1+1) 4 (.bool false))∧Below w.heap.size w V∧(∀ D∈Ds,V.heap[D]?=some (.deferred (some []))))
    (OwnFrom.and (OwnFrom.and (Own.from (holdsRow_own w.heap.size (w.heap.size+1+1+1) 22 27 4 (fun pre:List ByteArray=>acc.length+pre.length) (fun pre=>(acc++pre.map fun u=>(u,T.2)).flatMap tenc) (fun pre v=>acc.length+pre.length≤300∧v.ownBlock≠some W.heap.size)) _) (OwnFrom.and (Own.from (boxed_own _ _ _) _) (OwnFrom.and (Own.from (boxed_own _ _ _) _) (OwnFrom.and (Own.from (boxed_own _ _ _) _) (Own.from (blk_own _ _ _) _))))) (OwnFrom.and (ownFrom_below (Nat.le_refl _) (by have:=hBw1.size;omega)) (def_own Ds _ hDlt)))
    (fun c=>OwnFrom.and (OwnFrom.and (ownFrom_pure _ (fun _=>c=.ret)) (OwnFrom.and (ownFrom_pure _ (fun pre:List ByteArray=>300<acc.length+pre.length)) (OwnFrom.and (Own.from (boxed_own _ _ _) _) (Own.from (boxed_own _ _ _) _)))) (OwnFrom.and (ownFrom_below (Nat.le_refl _) (by have:=hBw1.size;omega)) (def_own Ds _ hDlt)))
    ⟨⟨⟨_,f3,by simpa using hrow1,by simpa using h300,hvo⟩,f0,f1,f2,tb⟩,hBw1,hDs1⟩
    (fun x a' _=>a'={ tmps:=#[.slice (some ⟨g,0,none⟩) ts.length cap,.agg #[.func (.func F) #[] lbF],undef,.pointer (some ⟨w.heap.size,0,none⟩),.pointer (some ⟨w.heap.size+1,0,none⟩),.pointer (some ⟨w.heap.size+1+1,0,none⟩),.pointer (some ⟨w.heap.size+1+1+1,0,none⟩),undef,.pointer (some ⟨W.heap.size,0,none⟩),.string x,.slice (some ⟨g,0,none⟩) ts.length cap,.int .i64 (ts.length:Int),.int .i64 (k:Int),.bool true,.pointer (some ⟨g,k*4,none⟩),.agg #[.string T.1,.int .i64 (T.2.1:Int),.int .i64 (T.2.2.1:Int),.int .i64 (T.2.2.2:Int)],.pointer (some ⟨w.heap.size,0,none⟩),.func (.func F) #[] lbF,.pointer (some ⟨W.heap.size,0,none⟩),.string T.1,.func (.func gf) #[] lb,.string x,u22,u23,u24,u25,u26,u27,u28,u29,u30,u31,u32,u33,u34,u35,u36,u37],defers:=[] })
    (fun x a' _ X Y row hs hg hr=>hs)
    ?assign ?body ?done ?stop
   case assign =>
    rintro l pre x V K hi hK
    simp only [encs1]
    gi_wp2
    exact hK _ _ (KeepsFrom.refl _ _) ⟨Nat.le_refl _,fun _ _ _ h _=>h⟩ hi rfl
   case body =>
    rintro l pre x a' V hll ⟨r,hr⟩ ⟨⟨⟨v',hv,hrow',h300',hvo'⟩,q0,q1,q2,qt⟩,hBV,hDV⟩ rfl hlt
    obtain ⟨m,hm⟩:∃ m,acc.length+pre.length=m:=⟨_,rfl⟩
    rw [hm] at hrow' h300'
    have hcv:=hv.cell
    obtain ⟨av,capv,rfl⟩:∃ av capv,v'=.slice av m capv:=by
     rcases hrow'.2 with ⟨hv',h0⟩ | ⟨g',cap',cur,hv',_⟩
     ·exact ⟨none,0,by rw [hv',h0]⟩
     ·exact ⟨_,_,hv'⟩
    have t1:V.cell? ⟨W.heap.size,1,none⟩=some (.int .i64 (T.2.1:Int)):=by simp [World.cell?,qt]
    have t2:V.cell? ⟨W.heap.size,2,none⟩=some (.int .i64 (T.2.2.1:Int)):=by simp [World.cell?,qt]
    have t3:V.cell? ⟨W.heap.size,3,none⟩=some (.int .i64 (T.2.2.2:Int)):=by simp [World.cell?,qt]
    by_cases hfull:m=300
    ·have hfI:((m:Int) == 300)=true:=by simp;omega
     have x1:=q1.cell
     have x2:=q2.cell
     have y1:=q1.frozen
     have y2:=q2.frozen
     gi_wp2_with fail
     have s1:=q1.set (.slice none 0 0)
     have s2:Boxed (V.setCell ⟨w.heap.size+1,0,none⟩ (.slice none 0 0)) (w.heap.size+1+1) 4 (.bool false):=q2.kept (grownBy_setCell' _ _ _) (by simp)
     have s3:=s2.set (.bool false)
     have s4:Boxed ((V.setCell ⟨w.heap.size+1,0,none⟩ (.slice none 0 0)).setCell ⟨w.heap.size+1+1,0,none⟩ (.bool false)) (w.heap.size+1) 22 (.slice none 0 0):=s1.kept (grownBy_setCell' _ _ _) (by simp)
     have hko:=(KeepsOthers.setCell V ⟨w.heap.size+1,0,none⟩ (.slice none 0 0)).trans (KeepsOthers.setCell _ ⟨w.heap.size+1+1,0,none⟩ (.bool false))
     exact ⟨hko.from _,⟨rfl,by simp;omega,s4,s3⟩,(hBV.setCell (p:=⟨w.heap.size+1,0,none⟩) (by simp) _).setCell (p:=⟨w.heap.size+1+1,0,none⟩) (by simp;omega) _,fun D hD=>hko.same D _ (hDV D hD) rfl⟩
    ·have hfI:((m:Int) == 300)=false:=by simp;omega
     have HNB:Hid ((V.alloc (.cells #[.string x,.int .i64 (T.2.1:Int),.int .i64 (T.2.2.1:Int),.int .i64 (T.2.2.2:Int)] 27)).heap[V.heap.size]?=some (.cells #[.string x,.int .i64 (T.2.1:Int),.int .i64 (T.2.2.1:Int),.int .i64 (T.2.2.2:Int)] 27 (0,0))):=heap_alloc_new V _
     gi_wp2_with (gi_at_builtin;refine wpListIn_append_own_at _ (by rfl) _ _ 22 (by rfl) w.heap.size 27 i0 (.agg #[.string ⟨#[]⟩,.int .i64 0,.int .i64 0,.int .i64 0]) 4 40 Tryz.underlying22 hi hz0 hz1 hz2 rfl (by decide) _ m ((acc++pre.map fun u=>(u,T.2)).flatMap tenc) (by rfl) (hrow'.alloc _) ⟨V.heap.size,0,none⟩ 1 1 [.string x,.int .i64 (T.2.1:Int),.int .i64 (T.2.2.1:Int),.int .i64 (T.2.2.2:Int)] (by rfl) rfl (World.news_of_block HNB.out) (by simp [Value.oneCell']) (by unfold maxLen;omega) (by omega) (by have:=hBV.size;simp;omega) ?_;intro v'' w1 hown' hgrow _ hat;obtain ⟨g',cap',rfl⟩:=ownsRow_succ hown';obtain ⟨hv1,hv2,hr2,hk2,hb2⟩:=hv.appended (by decide) hrow' hBV.size (by omega) hown' hgrow;have hc1:=hv1.cell;have hf1:=hv1.frozen)
     have hqt:=(Array.getElem?_eq_some_iff.1 qt).1
     have hN3:=hv.lt
     have hWN:w.heap.size+1+1+1<W.heap.size:=d3.lt
     have g0:=boxed_after (B:=w.heap.size+1+1+1) q0 (by decide) hrow' hgrow (by omega) (.slice (some ⟨g',0,none⟩) (m+1) cap')
     have g1:=boxed_after (B:=w.heap.size+1+1+1) q1 (by decide) hrow' hgrow (by omega) (.slice (some ⟨g',0,none⟩) (m+1) cap')
     have g2:=boxed_after (B:=w.heap.size+1+1+1) q2 (by decide) hrow' hgrow (by omega) (.slice (some ⟨g',0,none⟩) (m+1) cap')
     have gt:=(Below.heap_setCell w1 ⟨w.heap.size+1+1+1,0,none⟩ (.slice (some ⟨g',0,none⟩) (m+1) cap') W.heap.size (by simp only;omega)).trans ((hgrow.block W.heap.size (by simp;omega) (fun e=>hvo' e.symm)).trans ((Below.heap_alloc V _ W.heap.size hqt).trans qt))
     refine ⟨hk2.from _,keepO_append hrow' hgrow,⟨⟨⟨_,hv2,?_,by simp;omega,?_⟩,g0,g1,g2,gt⟩,hBV.trans hb2,fun D hD=>hk2.same D _ (hDV D hD) rfl⟩⟩
     ·rw [List.length_append,← Nat.add_assoc,hm,List.map_append,← List.append_assoc,List.flatMap_append]
      simpa [tenc] using hr2
     ·rcases hat with h | h
      ·rw [h];exact hvo'
      ·rw [h];simp;omega
   case done =>
    rintro D ys V hD rfl ⟨⟨⟨v',hv,hrow',h300',hvo'⟩,q0,q1,q2,qt⟩,hBV,hDV⟩ hK
    have hsucc:=Pl.chg_succ tf ts k hkl
    rw [hacc,hTk] at hsucc
    have hnew:D ∉ Ds:=fun h=>by have:=hDlt D h;omega
    have hbase:w.heap.size≤D:=by have:=hBw1.size;omega
    gi_wp2_with fail
    refine ⟨⟨k+1,D :: Ds,v',_,_,_,_,_,_,_,_,_,_,_,_,_,_,_,_,_,_,_,_,_,_,_,_,_,_,_,rfl,by omega,List.nodup_cons.2 ⟨hnew,hnd⟩,?_,q0,q1,q2,hv,?_,?_,hBV⟩,?_⟩
    ·intro D' hD'
     rcases List.mem_cons.1 hD' with rfl | h
     ·exact ⟨hbase,hK⟩
     ·exact ⟨(hDs D' h).1,hDV D' h⟩
    ·rw [hsucc,List.length_append,List.length_map];exact hrow'
    ·rw [hsucc,List.length_append,List.length_map];exact h300'
    ·simp [intOf];omega
   case stop =>
    rintro D c pre V hD hpre ⟨⟨rfl,h300',s1,s2⟩,hBV,hDV⟩ hK
    have hsucc:=Pl.chg_succ tf ts k hkl
    rw [hacc,hTk] at hsucc
    have hnew:D ∉ Ds:=fun h=>by have:=hDlt D h;omega
    have hbase:w.heap.size≤D:=by have:=hBw1.size;omega
    have htot:300<(Pl.chg tf ts).length:=by
     have h1:=Pl.chg_take_le tf ts (k+1)
     have h2:=hpre.length_le
     rw [hsucc,List.length_append,List.length_map] at h1
     omega
    gi_wp2_with fail
    refine leavesM_marks (base:=w.heap.size) (fun X=>Boxed X (w.heap.size+1) 22 (.slice none 0 0)∧Boxed X (w.heap.size+1+1) 4 (.bool false)∧Below w.heap.size w X) (fun X D' hb h hK'=>⟨boxed_put h.1 hK',boxed_put h.2.1 hK',h.2.2.trans (belowK_b (w:=w) (Nat.le_refl _) X D' _ _ hb hK' rfl rfl)⟩)
     (fun X h=>⟨.tuple #[.slice none 0 0,.bool false],by simp [results,Tryz.f68,go_sem,h.1.cell,h.2.1.cell],.inr ⟨htot,rfl⟩,h.2.2⟩) (D :: Ds) V (List.nodup_cons.2 ⟨hnew,hnd⟩) ?_ ⟨s1,s2,hBV⟩
    intro D' hD'
    rcases List.mem_cons.1 hD' with rfl | h
    ·exact ⟨hbase,hK⟩
    ·exact ⟨(hDs D' h).1,hDV D' h⟩
  ·have hkI:¬ (k:Int)<(ts.length:Int):=by omega
   have htk:ts.take k=ts:=List.take_of_length_le (by omega)
   rw [htk] at hrow h300
   have hcv:=d3.cell
   obtain ⟨av,capv,rfl⟩:∃ av capv,v=.slice av (Pl.chg tf ts).length capv:=by
    rcases hrow.2 with ⟨hv',h0⟩ | ⟨g',cap',cur,hv',_⟩
    ·exact ⟨none,0,by rw [hv',h0]⟩
    ·exact ⟨_,_,hv'⟩
   have x1:=d1.cell
   have x2:=d2.cell
   have y1:=d1.frozen
   have y2:=d2.frozen
   gi_wp2_with fail
   have s1:=d1.set (.slice av (Pl.chg tf ts).length capv)
   have s2:Boxed (W.setCell ⟨w.heap.size+1,0,none⟩ (.slice av (Pl.chg tf ts).length capv)) (w.heap.size+1+1) 4 (.bool false):=d2.kept (grownBy_setCell' _ _ _) (by simp)
   have s3:=s2.set (.bool true)
   have s4:Boxed ((W.setCell ⟨w.heap.size+1,0,none⟩ (.slice av (Pl.chg tf ts).length capv)).setCell ⟨w.heap.size+1+1,0,none⟩ (.bool true)) (w.heap.size+1) 22 (.slice av (Pl.chg tf ts).length capv):=s1.kept (grownBy_setCell' _ _ _) (by simp)
   have hko:=(KeepsOthers.setCell W ⟨w.heap.size+1,0,none⟩ (.slice av (Pl.chg tf ts).length capv)).trans (KeepsOthers.setCell _ ⟨w.heap.size+1+1,0,none⟩ (.bool true))
   have hrw:((W.setCell ⟨w.heap.size+1,0,none⟩ (.slice av (Pl.chg tf ts).length capv)).setCell ⟨w.heap.size+1+1,0,none⟩ (.bool true)).ownsRow w.heap.size 27 4 (.slice av (Pl.chg tf ts).length capv) (Pl.chg tf ts).length ((Pl.chg tf ts).flatMap tenc) :=
    (hrow.kept (grownBy_setCell' _ _ _) (.inr (d1.not_row (by decide) hrow).symm)).kept (grownBy_setCell' _ _ _) (.inr (s2.not_row (by decide) (hrow.kept (grownBy_setCell' _ _ _) (.inr (d1.not_row (by decide) hrow).symm))).symm)
   refine leavesM_marks (base:=w.heap.size) (fun X=>Boxed X (w.heap.size+1) 22 (.slice av (Pl.chg tf ts).length capv)∧Boxed X (w.heap.size+1+1) 4 (.bool true)∧X.ownsRow w.heap.size 27 4 (.slice av (Pl.chg tf ts).length capv) (Pl.chg tf ts).length ((Pl.chg tf ts).flatMap tenc)∧Below w.heap.size w X) (fun X D' hb h hK'=>⟨boxed_put h.1 hK',boxed_put h.2.1 hK',ownsRow_putObj h.2.2.1 _ hK' rfl,h.2.2.2.trans (belowK_b (w:=w) (Nat.le_refl _) X D' _ _ hb hK' rfl rfl)⟩)
    (fun X h=>⟨.tuple #[.slice av (Pl.chg tf ts).length capv,.bool true],by simp [results,Tryz.f68,go_sem,h.1.cell,h.2.1.cell],.inl ⟨_,rfl,h.2.2.1⟩,h.2.2.2⟩) Ds _ hnd (fun D' h=>⟨(hDs D' h).1,hko.same D' _ (hDs D' h).2 rfl⟩) ⟨s4,s3,hrw,(hB.setCell (p:=⟨w.heap.size+1,0,none⟩) (by simp) _).setCell (p:=⟨w.heap.size+1+1,0,none⟩) (by simp;omega) _⟩
end Go.Proofs.YtcmgclckknpecaaGreatDoor
