import Derived.Test.YtcmgclckknpecaaGreatDoorProg
import Derived.Tactics
import Derived.Tactics2
import Derived.WalkKit
import Derived.Defers
import Derived.Laws.Pointers
import Derived.Laws.LoneSync
import Derived.Laws.NewBlocks
import Derived.RegionTactic
import Derived.RegionCalls
import Derived.Test.YtcmgclckknpecaaGreatDoorKai
namespace Go.Proofs.YtcmgclckknpecaaGreatDoor
open Go.RowKit
theorem sy_disable (w:World):(callFunc 239 #[]).run Tryz.prog w=.ok (.value (.tuple #[])) w:=run_call_mark0 Tryz.func239 (by kernel_rfl) (by kernel_rfl) (by kernel_rfl) .disable (by kernel_rfl) w
theorem sy_enable (w:World):(callFunc 241 #[]).run Tryz.prog w=.ok (.value (.tuple #[])) w:=run_call_mark0 Tryz.func241 (by kernel_rfl) (by kernel_rfl) (by kernel_rfl) .enable (by kernel_rfl) w
theorem sy_acquire (a:Addr) (w:World):(callFunc 242 #[.pointer (some a)]).run Tryz.prog w=.ok (.value (.tuple #[])) w:=run_call_marked Tryz.func242 (by kernel_rfl) (by kernel_rfl) (by kernel_rfl) .acquire (by kernel_rfl) a w
theorem sy_releaseMerge (a:Addr) (w:World):(callFunc 325 #[.pointer (some a)]).run Tryz.prog w=.ok (.value (.tuple #[])) w:=run_call_marked Tryz.func325 (by kernel_rfl) (by kernel_rfl) (by kernel_rfl) .releaseMerge (by kernel_rfl) a w
theorem store_deferred (a:Addr) (x:Value) (u:FrameMode) (w:World) (hc:w.cell? a=some x) (hz:w.frozen? a=false) :
  CallsD Tryz.prog 194 #[.pointer (some a),.bool true] u w fun e u' w'=>u'=u∧(e=.returned (.tuple #[])∧w'=w.drew.setCell a (.int .u32 1)):=by
 have hc':w.drew.cell? a=some x:=by go_simp
 have hz':w.drew.frozen? a=false:=by go_simp
 have hst:=run_call_store (P:=Tryz.prog) Tryz.func290 (by kernel_rfl) (by kernel_rfl) (by kernel_rfl) (by kernel_rfl) (k:=.u32) (y:=1) hc' hz'
 go_enter_d Tryz.func194,Tryz.ntmps194
 go_wp2
 go_region_calls
 all_goals (go_end0;exact ⟨rfl,rfl⟩)
set_option maxRecDepth 100000 in
theorem unlock_deferred (a:Addr) (u:FrameMode) (w:World) (hc:w.cell? a=some (.int .i32 1)) (hz:w.frozen? a=false) :
  CallsD Tryz.prog 193 #[.pointer (some a)] u w fun e u' w'=>u'=u∧(e=.returned (.tuple #[])∧w'=w.setCell a (.int .i32 0)):=by
 have hd:=sy_disable
 have he:=sy_enable
 have hr:=sy_releaseMerge
 have hadd:=run_call_add (P:=Tryz.prog) Tryz.func361 (by kernel_rfl) (by kernel_rfl) (by kernel_rfl) .i32 (by kernel_rfl) (y:=-1) (s:=0) hc hz (by simp [go_sem];rfl)
 have hcv:=run_convert_to_unsafe (P:=Tryz.prog) (src:=476) (dst:=345) Tryz.underlying476 Tryz.underlying345 (by kernel_rfl) hc
 go_enter_d Tryz.func193,Tryz.ntmps193
 go_wp2
 go_end0
 go_wp2
 go_end0
 exact ⟨rfl,rfl⟩
set_option maxRecDepth 100000 in
theorem lock_free (a:Addr) (w:World) (hc:w.cell? a=some (.int .i32 0)) (hz:w.frozen? a=false) :
  Calls Tryz.prog 192 #[.pointer (some a)] w fun e w'=>e=.returned (.tuple #[])∧w'=w.setCell a (.int .i32 1):=by
 have hd:=sy_disable
 have he:=sy_enable
 have ha:=sy_acquire
 have hcas:=run_call_cas_hit (P:=Tryz.prog) Tryz.func359 (by kernel_rfl) (by kernel_rfl) (by kernel_rfl) .i32 (by kernel_rfl) (y:=1) hc hz
 have hc':(w.setCell a (.int .i32 1)).cell? a=some (.int .i32 1):=World.cell?_setCell_same w a _ hc
 have hcv:=run_convert_to_unsafe (P:=Tryz.prog) (src:=476) (dst:=345) Tryz.underlying476 Tryz.underlying345 (by kernel_rfl) hc'
 go_enter Tryz.func192,Tryz.ntmps192
 go_wp2
 first | go_end0 | (simp only [Exit.inBlock,Exit.then];refine bodyPost_ret (results_none rfl _ _ _) rfl ?_) | refine bodyPost_ret (results_none rfl _ _ _) rfl ?_
 go_wp2
 go_end0
 exact ⟨rfl,rfl⟩
end Go.Proofs.YtcmgclckknpecaaGreatDoor
namespace Go.Proofs.YtcmgclckknpecaaGreatDoor
open Go.RowKit Go.Shelf
attribute [local go_sem] Oper.semAt_some
def Pl.frx (cs:List (Nat × Nat × Nat)) (k:Nat):Nat:=(cs[k]?.getD (0,0,0)).2.1
def Pl.tox (cs:List (Nat × Nat × Nat)) (k:Nat):Nat:=(cs[k]?.getD (0,0,0)).2.2
abbrev Tk:=ByteArray × Nat × Nat × Nat
def tenc (t:Tk):List Value:=[.string t.1,.int .i64 (t.2.1:Int),.int .i64 (t.2.2.1:Int),.int .i64 (t.2.2.2:Int)]
def Pl.sub (cs:List (Nat × Nat × Nat)) (i z:Nat):List (Nat × Nat × Nat):=(cs.drop i).take z
def Pl.tok (cs:List (Nat × Nat × Nat)) (i:Nat) (p:Nat × Nat):Tk:=(⟨(Pl.tbs (Pl.sub cs p.1 p.2)).toArray⟩,i,Pl.frx cs p.1,Pl.tox cs (p.1+p.2 - 1))
def Pl.toks (cs:List (Nat × Nat × Nat)) {n:Nat}:Nat→List (Pce n)→List Tk
 | _,[]=>[]
 | i,x :: r=>Pl.tok cs i x.1 :: Pl.toks cs (i+1) r
theorem Pl.toks_snoc (cs:List (Nat × Nat × Nat)) {n:Nat}:∀ (i:Nat) (l:List (Pce n)) (x:Pce n),Pl.toks cs i (l++[x])=Pl.toks cs i l++[Pl.tok cs (i+l.length) x.1]
 | _,[],x=>by simp [Pl.toks]
 | i,y :: r,x=>by
  have:=Pl.toks_snoc cs (i+1) r x
  simp only [List.cons_append,Pl.toks,this,List.length_cons,List.cons.injEq,true_and]
  rw [show i+1+r.length=i+(r.length+1) by omega]
theorem Cr.sub {g o:Nat} {cs:List (Nat × Nat × Nat)} {w:World} (h:Cr g o cs w) (i z:Nat) (hz:i+z≤cs.length):Cr g (o+i*3) (Pl.sub cs i z) w :=
 ⟨fun j hj=>by
  have hl:(Pl.sub cs i z).length=z:=by simp [Pl.sub];omega
  have hj':i+j<cs.length:=by omega
  have he:(Pl.sub cs i z)[j]=cs[i+j]:=by simp [Pl.sub]
  have:=h.c (i+j) hj'
  rw [he]
  rw [show o+i*3+j*3=o+(i+j)*3 by omega]
  exact this⟩
theorem Pl.sub_length {cs:List (Nat × Nat × Nat)} {i z:Nat} (hz:i+z≤cs.length):(Pl.sub cs i z).length=z:=by simp [Pl.sub];omega
theorem Pl.sub_cdx (cs:List (Nat × Nat × Nat)) (i z B:Nat) (h:∀ k,Pl.cdx cs k≤B) (k:Nat):Pl.cdx (Pl.sub cs i z) k≤B:=by
 have:=h (i+k)
 unfold Pl.cdx Pl.sub at *
 rw [List.getElem?_take]
 split
 ·rw [List.getElem?_drop];exact this
 ·simp
theorem boxed_after {W w1:World} {n₀ B B':Nat} {t' e:TypeId} {size:Nat} {v u:Value} {k:Nat} {xs:List Value} {tmp:Obj} (h:Boxed W B' t' u) (hte:t'≠e) (hrow:W.ownsRow n₀ e size v k xs) (hgrow:(W.alloc tmp).grownBy w1 v.ownBlock) (hne:B'≠B) (v':Value):Boxed (w1.setCell ⟨B,0,none⟩ v') B' t' u :=
 ((h.alloc tmp).kept hgrow (h.not_row hte hrow)).kept (grownBy_setCell' w1 B v') (by simpa using hne)
theorem boxed_below {W W':World} {B:Nat} {t:TypeId} {u:Value} (h:Boxed W B t u) (hb:Below W.heap.size W W'):Boxed W' B t u:=(hb.block B h.lt).trans h
theorem Pl.sub_frx {cs:List (Nat × Nat × Nat)} {i z:Nat} (hz:i+z≤cs.length) {j:Nat} (hj:j<(Pl.sub cs i z).length):((Pl.sub cs i z)[j]).2.1=Pl.frx cs (i+j)∧((Pl.sub cs i z)[j]).2.2=Pl.tox cs (i+j):=by
 have hl:=Pl.sub_length hz
 have hj':i+j<cs.length:=by omega
 have he:(Pl.sub cs i z)[j]=cs[i+j]:=by simp [Pl.sub]
 rw [he]
 simp [Pl.frx,Pl.tox,hj']
theorem info27t:(Tryz.prog.info? 27).map (fun i=>(i.zero,i.size,i.bytes))=some (some (.agg #[.string ⟨#[]⟩,.int .i64 0,.int .i64 0,.int .i64 0]),4,40):=by kernel_rfl
set_option maxHeartbeats 400000 in
theorem rows1_in (F:Fence) (n:Nat) (h:F.fn 296) (hro:F.round=none) (v:Value) (Bs:Nat) (w:World) (a:Option Addr) (k c:Nat) (hv:v=.slice a k c) :
  CallsIn F n Tryz.prog 296 #[v,.pointer (some ⟨Bs,0,none⟩)] w fun e w'=>e=.returned (.func (.func 297) #[] #[.pointer (some ⟨w.heap.size,0,none⟩),.pointer (some ⟨Bs,0,none⟩)])∧w'=w.alloc (.cells #[v] 34):=by
 subst hv
 refine callsIn_of_wp Tryz.func296 rfl h ?_ hro
 simp only [Tryz.ntmps296,List.size_toArray,List.length_cons,List.length_nil,Nat.reduceAdd,Nat.reduceSub,Array.replicate_succ,Array.replicate_zero,List.push_toArray,List.append_toArray,List.nil_append,List.cons_append]
 gi_wp2
 go_ret
 exact ⟨rfl,rfl⟩
set_option maxRecDepth 100000 in
set_option maxHeartbeats 4000000 in
theorem cut160_in (F0:Nat) (eF:∀ args w,(callFunc F0 args).run Tryz.prog w=.ok (.enter F0 args) w) (n:Nat) (hn:3≤n) (Bs g o cap:Nat) (cs:List (Nat × Nat × Nat)) (hl:cs.length≤268435456) (hcap:cs.length≤cap) (a:Option Addr) (ha:0<cs.length→a=some ⟨g,o,none⟩) (hcd:∀ k,Pl.cdx cs k≤67108863)
  (zf:Nat→Nat) (hz:∀ i,i<cs.length→i+zf i≤cs.length) (HF:Hid (∀ k w,Cr g o cs w→k<cs.length→Calls Tryz.prog F0 #[.slice (some ⟨g,o,none⟩) cs.length cap,.int .i64 (k:Int)] w fun e w'=>e=.returned (.int .i64 ((zf k:Nat):Int))∧w'=w))
  (xs:List (Pce cs.length)) (HXS:Hid (Pl.cutS cs.length zf hz cs.length 0=xs)) (w:World) (hg:0<cs.length→g<w.heap.size) (hBs:Bs<w.heap.size) (hs:w.cell? ⟨Bs,0,none⟩=some (.func (.func F0) #[] #[])) (hCr:Cr g o cs w) :
  CallsIn Fence.wide n Tryz.prog 67 #[.slice a cs.length cap,.agg #[.func (.func 296) #[] #[.pointer (some ⟨Bs,0,none⟩)]]] w fun e W' =>
   ((xs.length≤300∧∃ v,e=.returned (.tuple #[v,.bool true])∧W'.ownsRow w.heap.size 27 4 v xs.length ((Pl.toks cs 0 xs).flatMap tenc))∨(300<xs.length∧e=.returned (.tuple #[.slice none 0 0,.bool false])))∧Below w.heap.size w W':=by
 have h1:1≤n:=by omega
 obtain ⟨i0,hi,hz0,hz1,hz2⟩:=info_parts info27t
 refine callsIn_of_wp_marks Tryz.func67 rfl trivial ?_ rfl
 simp only [Tryz.ntmps67,List.size_toArray,List.length_cons,List.length_nil,Nat.reduceAdd,Nat.reduceSub,Array.replicate_succ,Array.replicate_zero,List.push_toArray,List.append_toArray,List.nil_append,List.cons_append]
 gi_wp2_with fail
 refine ⟨trivial,?_⟩
 refine (rows1_in Fence.wide (n - 1) trivial rfl _ Bs _ a cs.length cap rfl).mono ?_
 rintro e W0 ⟨rfl,hW0⟩
 have hsz0:W0.heap.size=w.heap.size+5:=by rw [hW0];simp
 have hB0:Below w.heap.size w W0:=by
  rw [hW0]
  exact ((((Below.refl _ w).alloc (Nat.le_refl _) _).alloc (by simp) _).alloc (by simp;omega) _).alloc (by simp;omega) _ |>.alloc (by simp;omega) _
 have b1:Boxed W0 (w.heap.size+1) 22 (.slice none 0 0):=by
  rw [hW0]
  have:=Boxed.new (w.alloc (.cells #[.func (.func 296) #[] #[.pointer (some ⟨Bs,0,none⟩)]] 116)) 22 (.slice none 0 0)
  exact ((by simpa using this:Boxed _ (w.heap.size+1) 22 (.slice none 0 0)).alloc _).alloc _ |>.alloc _
 have b2:Boxed W0 (w.heap.size+1+1) 4 (.bool false):=by
  rw [hW0]
  have:=Boxed.new ((w.alloc (.cells #[.func (.func 296) #[] #[.pointer (some ⟨Bs,0,none⟩)]] 116)).alloc (.cells #[.slice none 0 0] 22)) 4 (.bool false)
  exact ((by simpa using this:Boxed _ (w.heap.size+1+1) 4 (.bool false)).alloc _).alloc _
 have b3:Boxed W0 (w.heap.size+1+1+1) 22 (.slice none 0 0):=by
  rw [hW0]
  have:=Boxed.new (((w.alloc (.cells #[.func (.func 296) #[] #[.pointer (some ⟨Bs,0,none⟩)]] 116)).alloc (.cells #[.slice none 0 0] 22)).alloc (.cells #[.bool false] 4)) 22 (.slice none 0 0)
  exact (by simpa using this:Boxed _ (w.heap.size+1+1+1) 22 (.slice none 0 0)).alloc _
 have b4:Boxed W0 (w.heap.size+1+1+1+1) 34 (.slice a cs.length cap):=by
  rw [hW0]
  have:=Boxed.new ((((w.alloc (.cells #[.func (.func 296) #[] #[.pointer (some ⟨Bs,0,none⟩)]] 116)).alloc (.cells #[.slice none 0 0] 22)).alloc (.cells #[.bool false] 4)).alloc (.cells #[.slice none 0 0] 22)) 34 (.slice a cs.length cap)
  simpa using this
 have HCK:Hid (∀ W,Below w.heap.size w W→Cr g o cs W):=fun W h=>hCr.below h hg
 clear hW0
 gi_wp2_with fail
 refine wpIn_rangeFunc_ownH rfl h1 (gf:=297) (lb:=#[.pointer (some ⟨w.heap.size+1+1+1+1,0,none⟩),.pointer (some ⟨Bs,0,none⟩)]) rfl trivial (enters_of Tryz.func297 (by kernel_rfl) rfl)
  (rows160_stops F0 eF (n - 1) (by omega) (w.heap.size+1+1+1+1) Bs w.heap.size g o cap cs hl hcap a ha hg zf hz HF xs HXS W0 (by omega) hBs (by omega) b4.cell ((hB0.cell (p:=⟨Bs,0,none⟩) hBs).trans hs) (HCK.out _ hB0)) KeepB.trans (keepB_put (by omega) (by omega)) (Below.refl _ _) (fun _=>rfl)
  (fun (pre:List (Pce cs.length)) W=>((∃ v,Boxed W (w.heap.size+1+1+1) 22 v∧W.ownsRow w.heap.size 27 4 v pre.length ((Pl.toks cs 0 pre).flatMap tenc)∧pre.length≤300)∧Boxed W (w.heap.size+1) 22 (.slice none 0 0)∧Boxed W (w.heap.size+1+1) 4 (.bool false)∧Boxed W (w.heap.size+1+1+1+1) 34 (.slice a cs.length cap))∧Below w.heap.size w W)
  (fun c pre W=>(c=.ret∧300<pre.length∧Boxed W (w.heap.size+1) 22 (.slice none 0 0)∧Boxed W (w.heap.size+1+1) 4 (.bool false))∧Below w.heap.size w W)
  (OwnFrom.and (OwnFrom.and (Own.from (holdsRow_own w.heap.size (w.heap.size+1+1+1) 22 27 4 (fun pre:List (Pce cs.length)=>pre.length) (fun pre=>(Pl.toks cs 0 pre).flatMap tenc) (fun pre _=>pre.length≤300)) _) (OwnFrom.and (Own.from (boxed_own _ _ _) _) (OwnFrom.and (Own.from (boxed_own _ _ _) _) (Own.from (boxed_own _ _ _) _)))) (ownFrom_below (Nat.le_refl _) (by omega)))
  (fun c=>OwnFrom.and (OwnFrom.and (ownFrom_pure _ (fun _=>c=.ret)) (OwnFrom.and (ownFrom_pure _ (fun pre:List (Pce cs.length)=>300<pre.length)) (OwnFrom.and (Own.from (boxed_own _ _ _) _) (Own.from (boxed_own _ _ _) _)))) (ownFrom_below (Nat.le_refl _) (by omega)))
  ⟨⟨⟨_,b3,World.ownsRow_nil _ _ _ _,by simp⟩,b1,b2,b4⟩,hB0⟩
  (fun x a' _=>a'={ tmps:=#[.slice a cs.length cap,.agg #[.func (.func 296) #[] #[.pointer (some ⟨Bs,0,none⟩)]],undef,.pointer (some ⟨w.heap.size,0,none⟩),.pointer (some ⟨w.heap.size+1,0,none⟩),.pointer (some ⟨w.heap.size+1+1,0,none⟩),.pointer (some ⟨w.heap.size+1+1+1,0,none⟩),.slice (some ⟨g,o+x.1.1*3,none⟩) x.1.2 (cap - x.1.1),undef,.pointer (some ⟨w.heap.size,0,none⟩),.func (.func 296) #[] #[.pointer (some ⟨Bs,0,none⟩)],.slice a cs.length cap,.func (.func 297) #[] #[.pointer (some ⟨w.heap.size+1+1+1+1,0,none⟩),.pointer (some ⟨Bs,0,none⟩)],.slice (some ⟨g,o+x.1.1*3,none⟩) x.1.2 (cap - x.1.1),undef,undef,undef,undef,undef,undef,undef,undef,undef,undef,undef,undef,undef,undef,undef,undef,undef,undef,undef,undef,undef,undef,undef,undef],defers:=[] })
  (fun x a' _ X Y row hs hg hr=>hs)
  ?assign ?body ?done ?stop
 case assign =>
  rintro l pre x W K hi hK
  simp only [encp]
  gi_wp2
  exact hK _ _ (KeepsFrom.refl _ _) ⟨Nat.le_refl _,fun _ _=>rfl⟩ hi rfl
 case body =>
  rintro l pre x a' W hll ⟨r,hr⟩ ⟨⟨⟨v,hv,hrow,h300⟩,d1,d2,d4⟩,hB⟩ rfl hlt
  have hcv:=hv.cell
  obtain ⟨av,capv,rfl⟩:∃ av capv,v=.slice av pre.length capv:=by
   rcases hrow.2 with ⟨hv',h0⟩ | ⟨g',cap',cur,hv',_⟩
   ·exact ⟨none,0,by rw [hv',h0]⟩
   ·exact ⟨_,_,hv'⟩
  have hCW:=HCK.out W hB
  obtain ⟨⟨i,z⟩,hx1,hx2⟩:=x
  simp only at hx1 hx2
  simp only
  have hCs:=hCW.sub i z hx2
  have hslen:=Pl.sub_length hx2
  have e1:=hCs.c 0 (by omega)
  have e2:=hCs.c (z - 1) (by omega)
  simp only [Nat.zero_mul,Nat.add_zero] at e1
  have hzi:(1:Int)≤(z:Int):=by omega
  by_cases hfull:pre.length=300
  ·have hfI:((pre.length:Int) == 300)=true:=by simp;omega
   have x1:=d1.cell
   have x2:=d2.cell
   have y1:=d1.frozen
   have y2:=d2.frozen
   gi_wp2_with fail
   have s1:=d1.set (.slice none 0 0)
   have s2:Boxed (W.setCell ⟨w.heap.size+1,0,none⟩ (.slice none 0 0)) (w.heap.size+1+1) 4 (.bool false):=d2.kept (grownBy_setCell' _ _ _) (by simp)
   have s3:=s2.set (.bool false)
   have s4:Boxed ((W.setCell ⟨w.heap.size+1,0,none⟩ (.slice none 0 0)).setCell ⟨w.heap.size+1+1,0,none⟩ (.bool false)) (w.heap.size+1) 22 (.slice none 0 0):=s1.kept (grownBy_setCell' _ _ _) (by simp)
   exact ⟨((KeepsOthers.setCell W _ _).trans (KeepsOthers.setCell _ _ _)).from _,⟨rfl,by simp;omega,s4,s3⟩,(hB.setCell (p:=⟨w.heap.size+1,0,none⟩) (by simp) _).setCell (p:=⟨w.heap.size+1+1,0,none⟩) (by simp;omega) _⟩
  ·have hfI:((pre.length:Int) == 300)=false:=by simp;omega
   obtain ⟨y,hy⟩:∃ y,(Pl.sub cs i z)[z - 1]'(by omega)=y:=⟨_,rfl⟩
   obtain ⟨x0,hx0⟩:∃ x0,(Pl.sub cs i z)[0]'(by omega)=x0:=⟨_,rfl⟩
   rw [hy] at e2
   rw [hx0] at e1
   obtain ⟨c0,c1,c2⟩:=e2
   gi_wp2_with fail
   have hN:w.heap.size+1+1+1<W.heap.size:=hv.lt
   have hgW:g<W.heap.size:=by have:=hg (by omega);omega
   have hS:(W.alloc (.cells #[.int .i64 (y.1:Int),.int .i64 (y.2.1:Int),.int .i64 (y.2.2:Int)] 38)).drew.cell? ⟨w.heap.size+1+1+1,0,none⟩=some (.slice av pre.length capv)∧(W.alloc (.cells #[.int .i64 (y.1:Int),.int .i64 (y.2.1:Int),.int .i64 (y.2.2:Int)] 38)).drew.cell? ⟨g,o+i*3+1,none⟩=some (.int .i64 (x0.2.1:Int))∧(W.alloc (.cells #[.int .i64 (y.1:Int),.int .i64 (y.2.1:Int),.int .i64 (y.2.2:Int)] 38)).drew.cell? ⟨W.heap.size,2,none⟩=some (.int .i64 (y.2.2:Int)):=by
    refine ⟨?_,?_,?_⟩
    ·exact (hv.alloc _).cell
    ·exact (World.cell?_alloc_past _ _ _ hgW).trans e1.2.1
    ·simp [go_sem]
   refine wpIn_region_G (S:=fun w'=>w'.cell? ⟨w.heap.size+1+1+1,0,none⟩=some (.slice av pre.length capv)∧w'.cell? ⟨g,o+i*3+1,none⟩=some (.int .i64 (x0.2.1:Int))∧w'.cell? ⟨W.heap.size,2,none⟩=some (.int .i64 (y.2.2:Int))) (c:=14) (by kernel_rfl) (by kernel_rfl) (by rintro ⟨_,_,h⟩;exact h) ?_
   refine wpAnyG_take 23 (i:=0) (v:=.slice av pre.length capv) rfl rfl (by kernel_rfl) (by kernel_rfl) (by kernel_rfl) (by kernel_rfl) (by decide) (by kernel_rfl) (fun _ _ _ h=>h) (Or.inl ⟨by rfl,?_⟩) hS ?_
   ·intro w' hw'
    obtain ⟨s1,s2,s3⟩:=hw'
    go_simp
   simp only [List.setIfInBounds_toArray,List.set_cons_zero,List.set_cons_succ]
   refine wpAnyG_take 24 (i:=1) (v:=.slice (some ⟨g,o+i*3,none⟩) z (cap - i)) rfl rfl (by kernel_rfl) (by kernel_rfl) (by kernel_rfl) (by kernel_rfl) (by decide) (by kernel_rfl) (fun _ _ _ h=>h) (Or.inl ⟨by rfl,?_⟩) hS ?_
   ·intro w' hw'
    obtain ⟨s1,s2,s3⟩:=hw'
    go_simp
   simp only [List.setIfInBounds_toArray,List.set_cons_zero,List.set_cons_succ]
   refine wpAnyG_take 26 (i:=3) (v:=.slice av pre.length capv) rfl rfl (by kernel_rfl) (by kernel_rfl) (by kernel_rfl) (by kernel_rfl) (by decide) (by kernel_rfl) (fun _ _ _ h=>h) (Or.inl ⟨by rfl,?_⟩) hS ?_
   ·intro w' hw'
    obtain ⟨s1,s2,s3⟩:=hw'
    go_simp
   simp only [List.setIfInBounds_toArray,List.set_cons_zero,List.set_cons_succ]
   refine wpAnyG_take 27 (i:=4) (v:=.int .i64 (pre.length:Int)) rfl rfl (by kernel_rfl) (by kernel_rfl) (by kernel_rfl) (by kernel_rfl) (by decide) (by kernel_rfl) (fun _ _ _ h=>h) (Or.inl ⟨by rfl,?_⟩) hS ?_
   ·intro w' hw'
    obtain ⟨s1,s2,s3⟩:=hw'
    go_simp
   simp only [List.setIfInBounds_toArray,List.set_cons_zero,List.set_cons_succ]
   refine wpAnyG_take 28 (i:=5) (v:=.slice (some ⟨g,o+i*3,none⟩) z (cap - i)) rfl rfl (by kernel_rfl) (by kernel_rfl) (by kernel_rfl) (by kernel_rfl) (by decide) (by kernel_rfl) (fun _ _ _ h=>h) (Or.inl ⟨by rfl,?_⟩) hS ?_
   ·intro w' hw'
    obtain ⟨s1,s2,s3⟩:=hw'
    go_simp
   simp only [List.setIfInBounds_toArray,List.set_cons_zero,List.set_cons_succ]
   refine wpAnyG_take 29 (i:=6) (v:=.pointer (some ⟨g,o+i*3,none⟩)) rfl rfl (by kernel_rfl) (by kernel_rfl) (by kernel_rfl) (by kernel_rfl) (by decide) (by kernel_rfl) (fun _ _ _ h=>h) (Or.inl ⟨by rfl,?_⟩) hS ?_
   ·intro w' hw'
    obtain ⟨s1,s2,s3⟩:=hw'
    go_simp
    intro hz0'
    omega
   simp only [List.setIfInBounds_toArray,List.set_cons_zero,List.set_cons_succ]
   refine wpAnyG_take 30 (i:=7) (v:=.pointer (some ⟨g,o+i*3+1,none⟩)) rfl rfl (by kernel_rfl) (by kernel_rfl) (by kernel_rfl) (by kernel_rfl) (by decide) (by kernel_rfl) (fun _ _ _ h=>h) (Or.inl ⟨by rfl,?_⟩) hS ?_
   ·intro w' hw'
    obtain ⟨s1,s2,s3⟩:=hw'
    go_simp
   simp only [List.setIfInBounds_toArray,List.set_cons_zero,List.set_cons_succ]
   refine wpAnyG_take 31 (i:=8) (v:=.int .i64 (x0.2.1:Int)) rfl rfl (by kernel_rfl) (by kernel_rfl) (by kernel_rfl) (by kernel_rfl) (by decide) (by kernel_rfl) (fun _ _ _ h=>h) (Or.inl ⟨by rfl,?_⟩) hS ?_
   ·intro w' hw'
    obtain ⟨s1,s2,s3⟩:=hw'
    go_simp
   simp only [List.setIfInBounds_toArray,List.set_cons_zero,List.set_cons_succ]
   refine wpAnyG_take 32 (i:=9) (v:=.pointer (some ⟨W.heap.size,2,none⟩)) rfl rfl (by kernel_rfl) (by kernel_rfl) (by kernel_rfl) (by kernel_rfl) (by decide) (by kernel_rfl) (fun _ _ _ h=>h) (Or.inl ⟨by rfl,?_⟩) hS ?_
   ·intro w' hw'
    obtain ⟨s1,s2,s3⟩:=hw'
    go_simp
   simp only [List.setIfInBounds_toArray,List.set_cons_zero,List.set_cons_succ]
   refine wpAnyG_take 33 (i:=10) (v:=.int .i64 (y.2.2:Int)) rfl rfl (by kernel_rfl) (by kernel_rfl) (by kernel_rfl) (by kernel_rfl) (by decide) (by kernel_rfl) (fun _ _ _ h=>h) (Or.inl ⟨by rfl,?_⟩) hS ?_
   ·intro w' hw'
    obtain ⟨s1,s2,s3⟩:=hw'
    go_simp
   simp only [List.setIfInBounds_toArray,List.set_cons_zero,List.set_cons_succ]
   refine wpAnyG_one (i:=2) rfl (by kernel_rfl) (by rfl) ?_
   go_simp
   have hgs:g<(W.alloc (.cells #[.int .i64 (y.1:Int),.int .i64 (y.2.1:Int),.int .i64 (y.2.2:Int)] 38)).drew.heap.size:=by show g<(W.alloc _).heap.size;simp;omega
   have hCd:Cr g (o+i*3) (Pl.sub cs i z) (W.alloc (.cells #[.int .i64 (y.1:Int),.int .i64 (y.2.1:Int),.int .i64 (y.2.2:Int)] 38)).drew:=hCs.below (((Below.refl W.heap.size W).alloc (Nat.le_refl _) _).drew) (fun _=>hgW)
   have htm:=termOf_any g (o+i*3) (cap - i) (Pl.sub cs i z) _ hCd hgs (by omega) (Pl.sub_cdx cs i z _ hcd)
   rw [hslen] at htm
   refine htm.mono ?_
   rintro e W2 ⟨rfl,hB2⟩
   obtain ⟨T,hT⟩:∃ T:ByteArray,(⟨(Pl.tbs (Pl.sub cs i z)).toArray⟩:ByteArray)=T:=⟨_,rfl⟩
   rw [hT]
   have hB2':Below W.heap.size W W2:=((Below.refl W.heap.size W).alloc (Nat.le_refl _) _).drew.trans (hB2.mono (by show W.heap.size≤(W.alloc _).heap.size;simp))
   have hs2:W.heap.size+1≤W2.heap.size:=by have:=hB2.size;simpa using this
   have hS2:W2.cell? ⟨w.heap.size+1+1+1,0,none⟩=some (.slice av pre.length capv)∧W2.cell? ⟨g,o+i*3+1,none⟩=some (.int .i64 (x0.2.1:Int))∧W2.cell? ⟨W.heap.size,2,none⟩=some (.int .i64 (y.2.2:Int)) :=
    ⟨(hB2.cell (p:=⟨w.heap.size+1+1+1,0,none⟩) (by show _<(W.alloc _).heap.size;simp;omega)).trans hS.1,(hB2.cell (p:=⟨g,o+i*3+1,none⟩) hgs).trans hS.2.1,(hB2.cell (p:=⟨W.heap.size,2,none⟩) (by show _<(W.alloc _).heap.size;simp)).trans hS.2.2⟩
   refine ⟨hS2,?_⟩
   refine wpAnyG_take 34 (i:=11) (v:=.agg #[.string T,.int .i64 (pre.length:Int),.int .i64 (x0.2.1:Int),.int .i64 (y.2.2:Int)]) rfl rfl (by kernel_rfl) (by kernel_rfl) (by kernel_rfl) (by kernel_rfl) (by decide) (by kernel_rfl) (fun _ _ _ h=>h) (Or.inl ⟨by rfl,?_⟩) hS2 ?_
   ·intro w' hw'
    go_simp
   simp only [List.setIfInBounds_toArray,List.set_cons_zero,List.set_cons_succ]
   refine wpAnyG_one (i:=12) rfl (by kernel_rfl) (by rfl) ?_
   go_simp
   have hv2:Boxed W2 (w.heap.size+1+1+1) 22 (.slice av pre.length capv):=boxed_below hv hB2'
   have hrow2:=ownsRow_below hrow hB2'
   have hg2:g<W2.heap.size:=by omega
   have hS3:(W2.alloc (.cells #[.string T,.int .i64 (pre.length:Int),.int .i64 (x0.2.1:Int),.int .i64 (y.2.2:Int)] 27)).cell? ⟨w.heap.size+1+1+1,0,none⟩=some (.slice av pre.length capv)∧(W2.alloc (.cells #[.string T,.int .i64 (pre.length:Int),.int .i64 (x0.2.1:Int),.int .i64 (y.2.2:Int)] 27)).cell? ⟨g,o+i*3+1,none⟩=some (.int .i64 (x0.2.1:Int))∧(W2.alloc (.cells #[.string T,.int .i64 (pre.length:Int),.int .i64 (x0.2.1:Int),.int .i64 (y.2.2:Int)] 27)).cell? ⟨W.heap.size,2,none⟩=some (.int .i64 (y.2.2:Int)) :=
    ⟨(hv2.alloc _).cell,(World.cell?_alloc_past _ _ _ hg2).trans hS2.2.1,(World.cell?_alloc_past _ _ _ (by omega)).trans hS2.2.2⟩
   refine ⟨hS3,?_⟩
   have HNB:Hid ((W2.alloc (.cells #[.string T,.int .i64 (pre.length:Int),.int .i64 (x0.2.1:Int),.int .i64 (y.2.2:Int)] 27)).heap[W2.heap.size]?=some (.cells #[.string T,.int .i64 (pre.length:Int),.int .i64 (x0.2.1:Int),.int .i64 (y.2.2:Int)] 27 (0,0))):=heap_alloc_new W2 _
   refine wpAnyG_one (i:=13) rfl (by kernel_rfl) (by rfl) ?_
   refine wp_append_lies _ _ _ 22 rfl w.heap.size 27 i0 (.agg #[.string ⟨#[]⟩,.int .i64 0,.int .i64 0,.int .i64 0]) 4 40 Tryz.underlying22 hi hz0 hz1 hz2 rfl (by decide) _ pre.length ((Pl.toks cs 0 pre).flatMap tenc) rfl (hrow2.alloc _) ⟨W2.heap.size,0,none⟩ 1 1 [.string T,.int .i64 (pre.length:Int),.int .i64 (x0.2.1:Int),.int .i64 (y.2.2:Int)] rfl rfl (World.news_of_block HNB.out) (by simp [Value.oneCell']) (by decide) (by unfold maxLen;omega) (by omega) (by simp;omega) (W2.heap.size+1) (by simp) ?_
   intro g' cap' W4 hown hgrow hat hlt4
   obtain ⟨hv4,hv5,hr5,hk5,hb5⟩:=hv2.appended (by decide) hrow2 (by omega) (by omega) hown hgrow
   have hsg:=hgrow.size
   simp only [World.size_alloc] at hsg
   have hS4:W4.cell? ⟨w.heap.size+1+1+1,0,none⟩=some (.slice av pre.length capv)∧W4.cell? ⟨g,o+i*3+1,none⟩=some (.int .i64 (x0.2.1:Int))∧W4.cell? ⟨W.heap.size,2,none⟩=some (.int .i64 (y.2.2:Int)):=by
    refine ⟨hv4.cell,(hgrow.cell_far ⟨g,o+i*3+1,none⟩ (by simp;omega) (fun e=>?_)).trans hS3.2.1,(hgrow.cell_far ⟨W.heap.size,2,none⟩ (by simp;omega) (fun e=>?_)).trans hS3.2.2⟩
    ·have h1:=(ownBlock_lt hrow e.symm).2
     have h2:=hg (by omega)
     simp only at h1
     omega
    ·have h1:=(ownBlock_lt hrow e.symm).1
     simp only at h1
     omega
   refine ⟨fun _=>hS4,?_⟩
   simp only [Act.put,List.setIfInBounds_toArray]
   have hc4:=hv4.cell
   have hf4:=hv4.frozen
   refine wpAnyG_one (i:=14) rfl (by kernel_rfl) (by rfl) ?_
   go_simp
   refine wpAnyG_done (by kernel_rfl) ?_ _
   have hk:KeepsOthers W (W4.setCell ⟨w.heap.size+1+1+1,0,none⟩ (.slice (some ⟨g',0,none⟩) (pre.length+1) cap')):=(KeepsOthers.of_grownBy (grown_below hB2') (fun _ _ e=>by cases e)).trans hk5
   have hfin:Below w.heap.size w (W4.setCell ⟨w.heap.size+1+1+1,0,none⟩ (.slice (some ⟨g',0,none⟩) (pre.length+1) cap')):=hB.trans ((hB2'.mono hB.size).trans hb5)
   have f1:=boxed_after (B:=w.heap.size+1+1+1) (boxed_below d1 hB2') (by decide) hrow2 hgrow (by omega) (.slice (some ⟨g',0,none⟩) (pre.length+1) cap')
   have f2:=boxed_after (B:=w.heap.size+1+1+1) (boxed_below d2 hB2') (by decide) hrow2 hgrow (by omega) (.slice (some ⟨g',0,none⟩) (pre.length+1) cap')
   have f4:=boxed_after (B:=w.heap.size+1+1+1) (boxed_below d4 hB2') (by decide) hrow2 hgrow (by omega) (.slice (some ⟨g',0,none⟩) (pre.length+1) cap')
   refine ⟨hk.from _,⟨hk.size,?_⟩,⟨⟨_,hv5,?_,by simp;omega⟩,f1,f2,f4⟩,hfin⟩
   ·rintro k (hkl | rfl)
    ·exact ((hB2'.mono hB.size).trans hb5).block k hkl
    ·exact f4.trans d4.symm
   ·rw [Pl.toks_snoc,List.flatMap_append,List.length_append]
    have e0:=Pl.sub_frx hx2 (j:=0) (by omega)
    have e9:=Pl.sub_frx hx2 (j:=z - 1) (by omega)
    rw [hx0] at e0
    rw [hy] at e9
    have htok:tenc (Pl.tok cs (0+pre.length) (i,z))=[.string T,.int .i64 (pre.length:Int),.int .i64 (x0.2.1:Int),.int .i64 (y.2.2:Int)]:=by
     simp only [tenc,Pl.tok,Nat.zero_add]
     rw [hT,e0.1,e9.2]
     simp only [Nat.add_zero]
     rw [show i+z - 1=i+(z - 1) by omega]
    simp only [List.flatMap_cons,List.flatMap_nil,List.append_nil]
    rw [htok]
    exact hr5
 case done =>
  rintro D ys W hD rfl ⟨⟨⟨v,hv,hrow,h300⟩,d1,d2,d4⟩,hB⟩ hK
  have hcv:=hv.cell
  obtain ⟨av,capv,rfl⟩:∃ av capv,v=.slice av ys.length capv:=by
   rcases hrow.2 with ⟨hv',h0⟩ | ⟨g',cap',cur,hv',_⟩
   ·exact ⟨none,0,by rw [hv',h0]⟩
   ·exact ⟨_,_,hv'⟩
  have x1:=d1.cell
  have x2:=d2.cell
  have y1:=d1.frozen
  have y2:=d2.frozen
  gi_wp2_with fail
  have s1:=d1.set (.slice av ys.length capv)
  have s2:Boxed (W.setCell ⟨w.heap.size+1,0,none⟩ (.slice av ys.length capv)) (w.heap.size+1+1) 4 (.bool false):=d2.kept (grownBy_setCell' _ _ _) (by simp)
  have s3:=s2.set (.bool true)
  have s4:Boxed ((W.setCell ⟨w.heap.size+1,0,none⟩ (.slice av ys.length capv)).setCell ⟨w.heap.size+1+1,0,none⟩ (.bool true)) (w.heap.size+1) 22 (.slice av ys.length capv):=s1.kept (grownBy_setCell' _ _ _) (by simp)
  have hK':=((KeepsOthers.setCell W ⟨w.heap.size+1,0,none⟩ (.slice av ys.length capv)).trans (KeepsOthers.setCell _ ⟨w.heap.size+1+1,0,none⟩ (.bool true))).same D _ hK rfl
  refine ⟨by simp,.inl ⟨_,_,rfl,run_takeDeferred hK',?_⟩⟩
  have r1:=cell_kept s4.cell (grownBy_putObj' _ D (.deferred none)) (fun r e=>by cases e;exact ⟨_,hK',rfl⟩)
  have r2:=cell_kept s3.cell (grownBy_putObj' _ D (.deferred none)) (fun r e=>by cases e;exact ⟨_,hK',rfl⟩)
  have hrw:((W.setCell ⟨w.heap.size+1,0,none⟩ (.slice av ys.length capv)).setCell ⟨w.heap.size+1+1,0,none⟩ (.bool true)).ownsRow w.heap.size 27 4 (.slice av ys.length capv) ys.length ((Pl.toks cs 0 ys).flatMap tenc) :=
   (hrow.kept (grownBy_setCell' _ _ _) (.inr (d1.not_row (by decide) hrow).symm)).kept (grownBy_setCell' _ _ _) (.inr (s2.not_row (by decide) (hrow.kept (grownBy_setCell' _ _ _) (.inr (d1.not_row (by decide) hrow).symm))).symm)
  refine ⟨.tuple #[.slice av ys.length capv,.bool true],?_,.inl ⟨h300,_,rfl,ownsRow_putObj hrw _ hK' rfl⟩,((hB.setCell (p:=⟨w.heap.size+1,0,none⟩) (by simp) _).setCell (p:=⟨w.heap.size+1+1,0,none⟩) (by simp;omega) _).trans (belowK_b (w:=w) (Nat.le_refl _) _ D _ _ (by omega) hK' rfl rfl)⟩
  simp [results,Tryz.f67,go_sem,r1,r2]
 case stop =>
  rintro D c pre W hD hpre ⟨⟨rfl,h300,d1,d2⟩,hB⟩ hK
  gi_wp2_with fail
  refine ⟨by simp,.inl ⟨_,_,rfl,run_takeDeferred hK,?_⟩⟩
  have r1:=cell_kept d1.cell (grownBy_putObj' _ D (.deferred none)) (fun r e=>by cases e;exact ⟨_,hK,rfl⟩)
  have r2:=cell_kept d2.cell (grownBy_putObj' _ D (.deferred none)) (fun r e=>by cases e;exact ⟨_,hK,rfl⟩)
  refine ⟨.tuple #[.slice none 0 0,.bool false],?_,.inr ⟨Nat.lt_of_lt_of_le h300 hpre.length_le,rfl⟩,hB.trans (belowK_b (w:=w) (Nat.le_refl _) _ D _ _ (by omega) hK rfl rfl)⟩
  simp [results,Tryz.f67,go_sem,r1,r2]
end Go.Proofs.YtcmgclckknpecaaGreatDoor
