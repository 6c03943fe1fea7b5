import Derived.Test.YteampbddflhngaaGreatP06

namespace Go.Proofs.YteampbddflhngaaGreat
set_option maxRecDepth 100000
set_option maxHeartbeats 1000000
open Go.RowKit
variable {lo:Nat}
theorem zrr{t t':List zas}{l:zbv}(h:zpv t l=some t'):t'.length<=t.length+1:=by
 unfold zpv at h
 split at h
 ·split at h <;> simp at h;subst h;omega
 ·simp at h;subst h;rw[zeb];omega
theorem z1m{t t':List zas}{l:zbv}(h:zpv t l=some t')(hz:∀ e∈t,e.stratum<=0):∀ e∈t',e.stratum<=0:=by
 unfold zpv at h
 split at h
 ·split at h <;> simp at h;subst h;exact hz
 ·simp at h;subst h
  intro e he
  unfold zgp at he
  rcases List.mem_append.1 he with he|he
  ·exact hz e (List.mem_of_mem_take he)
  ·rcases List.mem_cons.1 he with he|he
   ·subst he;exact Nat.le_refl _
   ·exact hz e (List.mem_of_mem_drop he)
def zm6(o:Option (List zas))(l:zbv):Option (List zas):=o.bind (zpv · l)
def za2(c:zab):List zbv:=c.head::c.body
def zgn(cs:List zab):Option (List zas):=(cs.flatMap za2).foldl zm6 (some [])
theorem zir(ls:List zbv):ls.foldl zm6 none=none:=by
 induction ls with
 |nil=>rfl
 |cons a ls ih=>exact ih
theorem znq:∀(ls:List zbv) (t:List zas),(∀ e∈t,e.stratum<=0)->∀ t',ls.foldl zm6 (some t)=some t'->∀ e∈t',e.stratum<=0
 |[],t,hz,t',h=>by simp at h;subst h;exact hz
 |l::ls,t,hz,t',h=>by
  simp only[List.foldl_cons] at h
  cases ha:zpv t l with
  |none=>rw[show zm6 (some t) l=none from ha,zir] at h;cases h
  |some t2=>rw[show zm6 (some t) l=some t2 from ha] at h;exact znq ls t2 (z1m ha hz) t' h
theorem zrp:∀(ls:List zbv) (t:List zas),∀ t',ls.foldl zm6 (some t)=some t'->t'.length<=t.length+ls.length
 |[],t,t',h=>by simp at h;subst h;simp
 |l::ls,t,t',h=>by
  simp only[List.foldl_cons] at h
  cases ha:zpv t l with
  |none=>rw[show zm6 (some t) l=none from ha,zir] at h;cases h
  |some t2=>rw[show zm6 (some t) l=some t2 from ha] at h;have:=zrp ls t2 t' h;have:=zrr ha;simp;omega
theorem z5d(B:Nat)(w:World)(tb:Nat)(t:List zas)(l:zbv)(aoa:Option Addr)(capa:Nat)(h:TA B w tb t)(hl:t.length<=1000)(hn:zpv t l=none) :
  Calls Tryz.prog 102 #[.pointer (some ⟨tb,0,none⟩),.agg #[.bool l.neg,.string l.pred,.slice aoa l.args.length capa]] w fun e w'=>e=.returned (.bool false)/\Below w.heap.size w w':=by
 unfold zpv at hn
 split at hn
 ·rename_i e0 he
  split at hn
  ·cases hn
  ·rename_i hne
   have:=zyu B w tb t l aoa capa h hl e0 he
   rw[decide_eq_false hne] at this
   exact this
 ·cases hn
theorem zyv(B:Nat)(w:World)(tb:Nat)(t t2:List zas)(l:zbv)(aoa:Option Addr)(capa:Nat)(h:TA B w tb t)(hl:t.length<=1000)(hn:zpv t l=some t2)(hB:B<=w.heap.size)(hBt:B<=tb) :
  Calls Tryz.prog 102 #[.pointer (some ⟨tb,0,none⟩),.agg #[.bool l.neg,.string l.pred,.slice aoa l.args.length capa]] w fun e w'=>e=.returned (.bool true)/\TA B w' tb t2/\Below B w w'/\zhi tb w w':=by
 unfold zpv at hn
 split at hn
 ·rename_i e0 he
  split at hn
  ·rename_i heq
   simp at hn
   subst hn
   have:=zyu B w tb t l aoa capa h hl e0 he
   rw[decide_eq_true heq] at this
   refine this.mono ?_
   rintro e w' ⟨rfl,hb⟩
   exact⟨rfl,h.below hb,hb.mono hB,zhi.of hb⟩
  ·cases hn
 ·rename_i he
  simp at hn
  subst hn
  exact z7x B w tb t l aoa capa h hl he hB hBt
def zrk(o:Option (List zas))(w:World)(e:Ending)(w':World):Prop :=
 Below w.heap.size w w'/\match o with
  |none=>e=.returned (.tuple #[.agg #[.slice none 0 0],.bool false])
  |some t=>∃ pv,e=.returned (.tuple #[.agg #[pv],.bool true])/\w'.ownsRow w.heap.size 221 3 pv t.length (zcc t)
theorem znx{o:Option (List zas)}{w w':World}(h:Hid (o=none))(hb:Below w.heap.size w w'):zrk o w (.returned (.tuple #[.agg #[.slice none 0 0],.bool false])) w':=by
 have h':o=none:=h
 subst h';exact⟨hb,rfl⟩
theorem ztd{o:Option (List zas)}{w w':World}{t:List zas}{pv:Value}(h:Hid (o=some t))(hb:Below w.heap.size w w')(ho:w'.ownsRow w.heap.size 221 3 pv t.length (zcc t)):zrk o w (.returned (.tuple #[.agg #[pv],.bool true])) w':=by
 have h':o=some t:=h
 subst h';exact⟨hb,pv,rfl,ho⟩
theorem zny(w:World)(v:Value)(cs:List zab)(hcs:CIn lo 171 w v cs)(hN:(cs.flatMap za2).length<=1000) :
  Calls Tryz.prog 62 #[v] w fun e w'=>zrk (zgn cs) w e w':=by
 obtain⟨ao,cap,rfl⟩:=hcs.shape
 have hcl:cs.length<=1000:=by
  have:cs.length<=(cs.flatMap za2).length:=by
   clear hN hcs
   induction cs with
   |nil=>simp
   |cons c cs ih=>simp[za2] at ih ⊢;omega
  omega
 go_enter Tryz.func62,Tryz.ntmps62
 go_wp2
 go_loopw [11] (fun i wr=>∃(k:Nat) (tk:List zas),k<=cs.length/\i=.int .i64 k/\Below w.heap.size w wr/\TA w.heap.size wr (w.heap.size+1) tk/\Box wr w.heap.size #[.slice none 0 0] 127/\tk.length+((cs.drop k).flatMap za2).length<=1000/\Hid (zgn cs=((cs.drop k).flatMap za2).foldl zm6 (some tk))) (fun i _=>cs.length - (intOf i).toNat)
 case atStart =>
  have hb1:=(Below.refl w.heap.size w).alloc (Nat.le_refl _) (.cells #[.slice none 0 0] 127)
  exact⟨0,[],Nat.zero_le _,rfl,(by go_grown),⟨_,Box.newAt _ _ _ _ (by simp),World.ownsRow_nil _ _ _ _⟩,(Box.new w _ _).below ((Below.refl _ _).alloc (Nat.le_refl _) _),(by simpa using hN),rfl⟩
 case round =>
  obtain⟨k,tk,hk,rfl,hbk,htk,hres,hnk,H⟩:=hrel
  have hszk:=hbk.size
  have hres1:=hres.lt
  have htl:w.heap.size+1 < wr.heap.size:=by obtain⟨_,hb,_⟩:=htk;exact hb.lt
  by_cases hlt:k < cs.length
  ·have hdr:=List.drop_eq_getElem_cons hlt
   obtain⟨g,ao2,cap2,ao3,cap3,rfl,hg,hc0,hc1,hc2,hc3,hsk,hlk⟩:=hcs.cell k hlt
   have hd0:=(hbk.cell (p:=⟨g,k * 4,none⟩) hg).trans hc0
   have hd1:=(hbk.cell (p:=⟨g,k * 4+1,none⟩) hg).trans hc1
   have hd2:=(hbk.cell (p:=⟨g,k * 4+2,none⟩) hg).trans hc2
   have hd3:=(hbk.cell (p:=⟨g,k * 4+3,none⟩) hg).trans hc3
   have hgr:g < wr.heap.size:=by omega
   clear hc0 hc1 hc2 hc3 hsk
   generalize cs[k]=c at *
   rw[hdr] at hnk
   have H1:Hid (zgn cs=(c.body++(cs.drop (k+1)).flatMap za2).foldl zm6 (zm6 (some tk) c.head)):=by rw[Hid,H.out,hdr];rfl
   simp only[List.flatMap_cons,za2,List.length_append,List.length_cons] at hnk
   generalize hR:(cs.drop (k+1)).flatMap za2=rest at *
   have HR:Hid ((cs.drop (k+1)).flatMap za2=rest):=hR
   clear hR H hdr
   cases hA:zpv tk c.head with
   |none =>
    have HA:Hid (zpv tk c.head=none):=hA
    have HF:Hid (zgn cs=none):=by rw[Hid,H1.out,show zm6 (some tk) c.head=none from hA,zir]
    clear H1 hA
    go_wp2_with (first|(go_at_call 102;refine(z5d w.heap.size _ (w.heap.size+1) tk c.head _ _ (by exact htk.below (by go_grown)) (by omega) HA).mono ?_;rintro e w1 ⟨rfl,hb1⟩;have hB1:=zae ((Below.refl wr.heap.size wr).alloc (Nat.le_refl _) _) hb1 (Nat.le_refl _);have hBB:=zae hbk hB1 (Nat.le_refl _);have hres2:=hres.below hB1;obtain⟨hrc,hrf⟩:=hres2.rules;have hz2:=hres2.lt))
    exact bodyPost_ret (v:=.tuple #[.agg #[.slice none 0 0],.bool false]) (by simp[results,Tryz.results62,go_sem,hrc]) rfl (znx HF (by go_grown))
   |some t1 =>
    have HA:Hid (zpv tk c.head=some t1):=hA
    have hl1:=zrr hA
    have H2:Hid (zgn cs=(c.body++rest).foldl zm6 (some t1)):=by rw[Hid,H1.out,show zm6 (some tk) c.head=some t1 from hA]
    clear H1 hA
    go_wp2_with (first|(go_at_call 102;refine(zyv w.heap.size _ (w.heap.size+1) tk t1 c.head _ _ (by exact htk.below (by go_grown)) (by omega) HA (by exact Nat.le_trans hszk (by simp)) (by omega)).mono ?_;rintro e w1 ⟨rfl,ht1,hb1,hkp1⟩;have hBB:Below w.heap.size w w1:=(hbk.alloc hszk _).trans hb1;have hres2:=hkp1.box _ _ _ (by omega) (by decide) (hres.below ((Below.refl _ _).alloc (Nat.le_refl _) _));have hcb:=hkp1.box _ _ _ (by omega) (by decide) (Box.new wr _ _);obtain⟨hcc,hcf⟩:=hcb.rules;have hzc:=hcb.lt;have hz2:=hres2.lt))
    go_loopw [23] (fun i wj=>∃(j:Nat) (tj:List zas),j<=c.body.length/\i=.int .i64 j/\Below w.heap.size w wj/\TA w.heap.size wj (w.heap.size+1) tj/\Box wj w.heap.size #[.slice none 0 0] 127/\tj.length+(c.body.drop j).length+rest.length<=1000/\Hid (zgn cs=(c.body.drop j++rest).foldl zm6 (some tj))) (fun i _=>c.body.length - (intOf i).toNat)
    case atStart=>exact⟨0,t1,Nat.zero_le _,rfl,hBB,ht1,hres2,(by simp;omega),H2⟩
    case round =>
     clear hcc hcf hcb hzc
     obtain⟨j,tj,hj,rfl,hbj,htj,hresj,hnj,HJ⟩:=hrel
     have hszj:=hbj.size
     have hresl:=hresj.lt
     by_cases hjl:j < c.body.length
     ·obtain⟨gl,aol,capl,rfl,hgl,hl0,hl1',hl2',_⟩:=hlk.cell j hjl
      have he0:=(hbj.cell (p:=⟨gl,j * 3,none⟩) hgl).trans hl0
      have he1:=(hbj.cell (p:=⟨gl,j * 3+1,none⟩) hgl).trans hl1'
      have he2:=(hbj.cell (p:=⟨gl,j * 3+2,none⟩) hgl).trans hl2'
      have hgj:gl < wr.heap.size:=by omega
      have hdj:=List.drop_eq_getElem_cons hjl
      clear hl0 hl1' hl2'
      generalize c.body[j]=a at *
      rw[hdj] at hnj
      have HJ1:Hid (zgn cs=(c.body.drop (j+1)++rest).foldl zm6 (zm6 (some tj) a)):=by rw[Hid,HJ.out,hdj];rfl
      simp only[List.length_cons] at hnj
      clear hdj HJ
      cases hA:zpv tj a with
      |none =>
       have HA:Hid (zpv tj a=none):=hA
       have HF:Hid (zgn cs=none):=by rw[Hid,HJ1.out,show zm6 (some tj) a=none from hA,zir]
       clear HJ1 hA
       go_wp2_with (first|(go_at_call 102;refine(z5d w.heap.size _ (w.heap.size+1) tj a _ _ (by exact htj.below (by go_grown)) (by omega) HA).mono ?_;rintro e w3 ⟨rfl,hb3⟩;have hB3:=zae ((Below.refl wr.heap.size wr).alloc (Nat.le_refl _) _) hb3 (Nat.le_refl _);have hBB3:=zae hbj hB3 (Nat.le_refl _);have hres3:=hresj.below hB3;obtain⟨hrc,hrf⟩:=hres3.rules;have hz3:=hres3.lt))
       exact bodyPost_ret (v:=.tuple #[.agg #[.slice none 0 0],.bool false]) (by simp[results,Tryz.results62,go_sem,hrc]) rfl (znx HF (by go_grown))
      |some t2 =>
       have HA:Hid (zpv tj a=some t2):=hA
       have hl2:=zrr hA
       have HJ2:Hid (zgn cs=(c.body.drop (j+1)++rest).foldl zm6 (some t2)):=by rw[Hid,HJ1.out,show zm6 (some tj) a=some t2 from hA]
       have htjl:w.heap.size+1 < wr.heap.size:=by obtain⟨_,hb,_⟩:=htj;exact hb.lt
       clear HJ1 hA
       go_wp2_with (first|(go_at_call 102;refine(zyv w.heap.size _ (w.heap.size+1) tj t2 a _ _ (by exact htj.below (by go_grown)) (by omega) HA (by exact Nat.le_trans hszj (by simp)) (by omega)).mono ?_;rintro e w3 ⟨rfl,ht3,hb3,hkp3⟩;have hBB3:Below w.heap.size w w3:=(hbj.alloc hszj _).trans hb3;have hres3:=hkp3.box _ _ _ (by omega) (by decide) (hresj.below ((Below.refl _ _).alloc (Nat.le_refl _) _))))
       go_roundw
       case rel=>exact⟨j+1,t2,by omega,by go_num,hBB3,ht3,hres3,by omega,HJ2⟩
       case measure=>simp[intOf];omega
     ·have HE:Hid (zgn cs=((cs.drop (k+1)).flatMap za2).foldl zm6 (some tj)):=by rw[Hid,HJ.out,List.drop_eq_nil_of_le (by omega),HR.out];rfl
      have hnr:tj.length+rest.length<=1000:=by omega
      clear HJ
      go_wp2
      go_roundw
      case rel=>exact⟨k+1,tj,by omega,by go_num,hbj,htj,hresj,by rw[HR.out];exact hnr,HE⟩
      case measure=>simp[intOf];omega
  ·have HF:Hid (zgn cs=some tk):=by rw[Hid,H.out,List.drop_eq_nil_of_le (by omega)];rfl
   obtain⟨aop,capp,hbx,hown⟩:=htk.view
   obtain⟨hc,hf⟩:=hbx.rules
   obtain⟨hrc,hrf⟩:=hres.rules
   have hbxl:=hbx.lt
   clear H
   go_wp2
   have ho2:=zb9 hown ((But.refl w.heap.size wr).setCell 0 (.slice aop tk.length capp)) hres (by decide)
   exact bodyPost_ret (v:=.tuple #[.agg #[.slice aop tk.length capp],.bool true]) (by simp[results,Tryz.results62,go_sem,hrc]) rfl (ztd HF (by go_grown) ho2)
set_option maxHeartbeats 2000000
def ze8:ByteArray:=⟨#[44,32]⟩
def zek:List ByteArray->ByteArray
 |[]=>ByteArray.empty
 |[t]=>t
 |t::r=>t++ze8++zek r
theorem zqi:∀(l:List ByteArray) (x:ByteArray),l≠[]->zek (l++[x])=zek l++ze8++x
 |[],_,h=>absurd rfl h
 |[t],x,_=>rfl
 |t::u::r,x,_=>by
  show t++ze8++zek (u::(r++[x]))=t++ze8++zek (u::r)++ze8++x
  have:=zqi (u::r) x (by simp)
  rw[List.cons_append] at this
  rw[this]
  simp only[ByteArray.append_assoc]
theorem zqj{l:List ByteArray}{k:Nat}(hk:k < l.length):zek (l.take (k+1))=if k=0 then l[k] else zek (l.take k)++ze8++l[k]:=by
 rw[List.take_succ_eq_append_getElem hk]
 split
 ·rename_i h;subst h;rfl
 ·rw[zqi]
  intro h
  have:=congrArg List.length h
  rw[List.length_take,List.length_nil] at this
  omega
theorem zsh(w:World)(v:Value)(l:List ByteArray)(hs:SIn lo w v l)(hl:l.length<=1000)(h6:∀ t∈l,t.size<=6) :
  Calls Tryz.prog 169 #[v] w fun e w'=>e=.returned (.string (zek l))/\Below w.heap.size w w':=by
 obtain⟨ao,cap,rfl⟩:=hs.shape
 have H6:Hid (∀ t∈l,t.size<=6):=h6
 clear h6
 go_enter Tryz.func169,Tryz.ntmps169
 go_wp2
 go_loopw [3,8] (fun v3 v8 wr=>∃(k:Nat) (s:ByteArray),k<=l.length/\v8=.int .i64 k/\v3=.string s/\s.size<=8 * k/\Hid (s=zek (l.take k))/\Below w.heap.size w wr) (fun _ i _=>l.length - (intOf i).toNat)
 case atStart=>exact⟨0,_,Nat.zero_le _,rfl,rfl,Nat.le_refl _,rfl,Below.refl _ _⟩
 case round =>
  obtain⟨k,s,hk,rfl,rfl,hsz,H,hbk⟩:=hrel
  have hszk:=hbk.size
  by_cases hlt:k < l.length
  ·obtain⟨g,rfl,hg,hck⟩:=hs.cell k hlt
   have hxk:=(hbk.cell (p:=⟨g,k,none⟩) hg).trans hck
   have hgr:g < wr.heap.size:=by omega
   have HJ:=zqj hlt
   have hx6:=H6.out _ (List.getElem_mem hlt)
   clear hck
   generalize l[k]=x at *
   by_cases h0:k=0
   ·have HN:Hid (s++x=zek (l.take (k+1))):=by rw[Hid,HJ,if_pos h0,H.out,h0];simp[zek]
    subst h0
    clear HJ H
    go_wp2
    go_roundw
    case rel=>exact⟨1,s++x,by omega,by go_num,rfl,(by rw[ByteArray.size_append];omega),HN,(by go_grown)⟩
    case measure=>simp[intOf];omega
   ·have HN:Hid (s++ze8++x=zek (l.take (k+1))):=by rw[Hid,HJ,if_neg h0,H.out]
    have hc2:ze8.size=2:=rfl
    have hs2:(s++ze8).size=s.size+2:=by rw[ByteArray.size_append,hc2]
    clear HJ H
    go_wp2
    go_roundw
    case rel=>exact⟨k+1,s++ze8++x,by omega,by go_num,rfl,(by rw[ByteArray.size_append];omega),HN,(by go_grown)⟩
    case measure=>simp[intOf];omega
  ·have HN:Hid (s=zek l):=by rw[Hid,H.out,List.take_of_length_le (by omega)]
   clear H
   go_wp2
   go_ret
   exact⟨by rw[← HN.out];rfl,hbk⟩
def zs7:ByteArray:=⟨#[33]⟩
def zrv:ByteArray:=⟨#[40]⟩
def z1x:ByteArray:=⟨#[41]⟩
def zuz(l:zbv):ByteArray:=if l.neg then zs7++l.pred else l.pred
def zl7(l:zbv):ByteArray:=if l.args.length=0 then zuz l else zuz l++zrv++zek l.args++z1x
theorem zl6:∀(l:List ByteArray),(∀ t∈l,t.size<=6)->(zek l).size<=8 * l.length
 |[],_=>by simp[zek]
 |[t],h=>by have:=h t (by simp);simp[zek];omega
 |t::u::r,h=>by
  have h1:=h t (by simp)
  have h2:=zl6 (u::r) fun x hx=>h x (List.mem_cons_of_mem _ hx)
  show(t++ze8++zek (u::r)).size<=_
  rw[ByteArray.size_append,ByteArray.size_append,show ze8.size=2 from rfl]
  simp only[List.length_cons] at h2 ⊢
  omega
theorem z0o{l:zbv}(h:l.pred.size<=6):(zuz l).size<=7:=by
 unfold zuz;split
 ·rw[ByteArray.size_append,show zs7.size=1 from rfl];omega
 ·omega
def zrm(l:zbv):Prop:=l.pred.size<=6/\0 < l.pred.size/\l.args.length<=1000/\∀ t∈l.args,0 < t.size/\t.size<=6
theorem zoh{l:zbv}(h:zrm l):(zl7 l).size<=9+8 * l.args.length:=by
 obtain⟨h1,_,_,h4⟩:=h
 have h5:=z0o h1
 unfold zl7;split
 ·omega
 ·rw[ByteArray.size_append,ByteArray.size_append,ByteArray.size_append,show zrv.size=1 from rfl,show z1x.size=1 from rfl]
  have:=zl6 l.args fun t ht=>(h4 t ht).2
  omega
theorem zoi(w:World)(l:zbv)(va:Value)(hs:SIn lo w va l.args)(hf:zrm l) :
  Calls Tryz.prog 131 #[.agg #[.bool l.neg,.string l.pred,va]] w fun e w'=>e=.returned (.string (zl7 l))/\Below w.heap.size w w':=by
 obtain⟨ao,cap,rfl⟩:=hs.shape
 obtain⟨h1,h2,h3,h4⟩:=hf
 have H4:Hid (∀ t∈l.args,t.size<=6):=fun t ht=>(h4 t ht).2
 have HS:Hid (∀ W,Below w.heap.size w W->Calls Tryz.prog 169 #[.slice ao l.args.length cap] W fun e w'=>e=.returned (.string (zek l.args))/\Below W.heap.size W w'):=fun W hW=>zsh W _ l.args (hs.below hW) h3 H4.out
 have hj:=zl6 l.args H4.out
 have hb1:zs7.size=1:=rfl
 have hb2:zrv.size=1:=rfl
 have hb3:z1x.size=1:=rfl
 clear h4
 cases hn:l.neg with
 |true =>
  have hp:(zs7++l.pred).size<=7:=by rw[ByteArray.size_append];omega
  by_cases h0:l.args.length=0
  ·have HT:Hid (zl7 l=zs7++l.pred):=by unfold Hid zl7 zuz;rw[if_pos h0,hn];rfl
   have h0b:((l.args.length:Int) == 0)=true:=by rw[beq_iff_eq];omega
   clear hn
   generalize zek l.args=j at *
   generalize l.args.length=n at *
   go_enter Tryz.func131,Tryz.ntmps131
   go_wp2
   go_ret
   exact⟨by rw[HT.out];rfl,(by go_grown)⟩
  ·have HT:Hid (zl7 l=zs7++l.pred++zrv++zek l.args++z1x):=by unfold Hid zl7 zuz;rw[if_neg h0,hn];rfl
   have h0b:((l.args.length:Int) == 0)=false:=by rw[beq_eq_false_iff_ne];omega
   have hq1:(zs7++l.pred++zrv).size<=8:=by rw[ByteArray.size_append];omega
   have hq2:(zs7++l.pred++zrv++zek l.args).size<=8+8 * l.args.length:=by rw[ByteArray.size_append];omega
   clear hn
   generalize zek l.args=j at *
   generalize l.args.length=n at *
   go_enter Tryz.func131,Tryz.ntmps131
   go_wp2_with (first|(go_at_call 169;refine(HS.out _ (by exact(by go_grown))).mono ?_;rintro e w1 ⟨rfl,hb1'⟩))
   go_ret
   exact⟨by rw[HT.out];rfl,zae ((Below.refl w.heap.size w).alloc (Nat.le_refl _) _) hb1' (Nat.le_refl _)⟩
 |false =>
  by_cases h0:l.args.length=0
  ·have HT:Hid (zl7 l=l.pred):=by unfold Hid zl7 zuz;rw[if_pos h0,hn];rfl
   have h0b:((l.args.length:Int) == 0)=true:=by rw[beq_iff_eq];omega
   clear hn
   generalize zek l.args=j at *
   generalize l.args.length=n at *
   go_enter Tryz.func131,Tryz.ntmps131
   go_wp2
   go_ret
   exact⟨by rw[HT.out];rfl,(by go_grown)⟩
  ·have HT:Hid (zl7 l=l.pred++zrv++zek l.args++z1x):=by unfold Hid zl7 zuz;rw[if_neg h0,hn];rfl
   have h0b:((l.args.length:Int) == 0)=false:=by rw[beq_eq_false_iff_ne];omega
   have hq1:(l.pred++zrv).size<=8:=by rw[ByteArray.size_append];omega
   have hq2:(l.pred++zrv++zek l.args).size<=8+8 * l.args.length:=by rw[ByteArray.size_append];omega
   clear hn
   generalize zek l.args=j at *
   generalize l.args.length=n at *
   go_enter Tryz.func131,Tryz.ntmps131
   go_wp2_with (first|(go_at_call 169;refine(HS.out _ (by exact(by go_grown))).mono ?_;rintro e w1 ⟨rfl,hb1'⟩))
   go_ret
   exact⟨by rw[HT.out];rfl,zae ((Below.refl w.heap.size w).alloc (Nat.le_refl _) _) hb1' (Nat.le_refl _)⟩
def znu:ByteArray:=⟨#[32,58,45,32]⟩
def z9w:ByteArray:=⟨#[46]⟩
def zzb:ByteArray:=⟨#[10]⟩
def bodyT(b:List zbv):ByteArray:=if b.length=0 then ByteArray.empty else znu++zek (b.map zl7)
def clT(c:zab):ByteArray:=zl7 c.head++bodyT c.body++z9w
def zxo(c:zab):Prop:=(∀ l∈za2 c,zrm l)/\c.body.length<=1000
theorem zzg{b:List zbv}{k:Nat}(hk:k < b.length)(s:ByteArray):s++bodyT (b.take (k+1))=if k=0 then s++znu++zl7 b[k] else s++bodyT (b.take k)++ze8++zl7 b[k]:=by
 have hl:(b.take (k+1)).length≠0:=by rw[List.length_take];omega
 have hj:zek ((b.take (k+1)).map zl7)=if k=0 then zl7 b[k] else zek ((b.take k).map zl7)++ze8++zl7 b[k]:=by
  have:=zqj (l:=b.map zl7) (k:=k) (by simpa using hk)
  rw[← List.map_take,← List.map_take] at this
  simpa using this
 unfold bodyT
 rw[if_neg hl,hj]
 split
 ·rw[ByteArray.append_assoc]
 ·rw[if_neg (by rw[List.length_take];omega)]
  simp only[ByteArray.append_assoc]
theorem zzj(w:World)(c:zab)(va vb:Value)(hs:SIn lo w va c.head.args)(hb:LIn lo w vb c.body)(hf:zxo c) :
  Calls Tryz.prog 85 #[.agg #[.bool c.head.neg,.string c.head.pred,va,vb]] w fun e w'=>e=.returned (.string (clT c))/\Below w.heap.size w w':=by
 obtain⟨ao,cap,rfl⟩:=hs.shape
 obtain⟨aob,capb,rfl⟩:=hb.shape
 obtain⟨hf1,hf2⟩:=hf
 have HF:Hid (∀ l∈za2 c,zrm l):=hf1
 have hh:=hf1 c.head (by simp[za2])
 have hhz:=zoh hh
 have hhl:=hh.2.2.1
 have HH:Hid (∀ W,Below w.heap.size w W->Calls Tryz.prog 131 #[.agg #[.bool c.head.neg,.string c.head.pred,.slice ao c.head.args.length cap]] W fun e w'=>e=.returned (.string (zl7 c.head))/\Below W.heap.size W w'):=fun W hW=>zoi W c.head _ (hs.below hW) hh
 have HC:Hid (clT c=zl7 c.head++bodyT c.body++z9w):=rfl
 clear hf1 hh
 generalize clT c=tc at *
 generalize zl7 c.head=th at *
 go_enter Tryz.func85,Tryz.ntmps85
 go_wp2_with (first|(go_at_call 131;refine(HH.out _ (by exact(by go_grown))).mono ?_;rintro e w1 ⟨rfl,hb1⟩;have hB1:=zae ((Below.refl w.heap.size w).alloc (Nat.le_refl _) (.cells #[.bool c.head.neg,.string c.head.pred,.slice ao c.head.args.length cap,.slice aob c.body.length capb] 171)) hb1 (Nat.le_refl _);have hbx1:=(Box.new w #[.bool c.head.neg,.string c.head.pred,.slice ao c.head.args.length cap,.slice aob c.body.length capb] 171).below hb1;obtain⟨hc1,hf1⟩:=hbx1.rules;have hlt1:=hbx1.lt))
 clear hc1 hf1
 go_loopw [3,12] (fun v3 v12 wr=>∃(k:Nat) (s:ByteArray),k<=c.body.length/\v12=.int .i64 k/\v3=.string s/\s.size<=10000 * (k+1)/\Hid (s=th++bodyT (c.body.take k))/\Below w.heap.size w wr) (fun _ i _=>c.body.length - (intOf i).toNat)
 case atStart=>exact⟨0,th,Nat.zero_le _,rfl,rfl,by omega,(by simp[Hid,bodyT]),hB1⟩
 case round =>
  obtain⟨k,s,hk,rfl,rfl,hsz,H,hbk⟩:=hrel
  have hszk:=hbk.size
  by_cases hlt:k < c.body.length
  ·obtain⟨gl,aol,capl,rfl,hgl,hl0,hl1,hl2,hsl⟩:=hb.cell k hlt
   have he0:=(hbk.cell (p:=⟨gl,k * 3,none⟩) hgl).trans hl0
   have he1:=(hbk.cell (p:=⟨gl,k * 3+1,none⟩) hgl).trans hl1
   have he2:=(hbk.cell (p:=⟨gl,k * 3+2,none⟩) hgl).trans hl2
   have hgr:gl < wr.heap.size:=by omega
   have HJ:=zzg hlt th
   have hfl:=HF.out c.body[k] (by simp[za2])
   have hslr:=hsl.below hbk
   clear hl0 hl1 hl2 hsl
   generalize c.body[k]=a at *
   have hla:=zoh hfl
   have hla2:=hfl.2.2.1
   have HL:Hid (∀ W,Below wr.heap.size wr W->Calls Tryz.prog 131 #[.agg #[.bool a.neg,.string a.pred,.slice aol a.args.length capl]] W fun e w'=>e=.returned (.string (zl7 a))/\Below W.heap.size W w'):=fun W hW=>zoi W a _ (hslr.below hW) hfl
   clear hslr hfl
   generalize zl7 a=ta at *
   have hba:znu.size=4:=rfl
   have hbc:ze8.size=2:=rfl
   by_cases h0:k=0
   ·have HN:Hid (s++znu++ta=th++bodyT (c.body.take (k+1))):=by rw[Hid,HJ,if_pos h0,H.out,h0];simp[bodyT]
    have hq:(s++znu).size=s.size+4:=by rw[ByteArray.size_append,hba]
    subst h0
    clear HJ H
    go_wp2_with (first|(go_at_call 131;refine(HL.out _ (by exact(by go_grown))).mono ?_;rintro e w2 ⟨rfl,hb2⟩;have hB2:Below w.heap.size w w2:=zae (hbk.alloc hszk _) hb2 (Nat.le_refl _)))
    go_roundw
    case rel=>exact⟨1,s++znu++ta,by omega,by go_num,rfl,(by rw[ByteArray.size_append];omega),HN,hB2⟩
    case measure=>simp[intOf];omega
   ·have HN:Hid (s++ze8++ta=th++bodyT (c.body.take (k+1))):=by rw[Hid,HJ,if_neg h0,H.out]
    have hq:(s++ze8).size=s.size+2:=by rw[ByteArray.size_append,hbc]
    clear HJ H
    go_wp2_with (first|(go_at_call 131;refine(HL.out _ (by exact(by go_grown))).mono ?_;rintro e w2 ⟨rfl,hb2⟩;have hB2:Below w.heap.size w w2:=zae (hbk.alloc hszk _) hb2 (Nat.le_refl _)))
    go_roundw
    case rel=>exact⟨k+1,s++ze8++ta,by omega,by go_num,rfl,(by rw[ByteArray.size_append];omega),HN,hB2⟩
    case measure=>simp[intOf];omega
  ·have HN:Hid (s++z9w=tc):=by rw[Hid,HC.out,H.out,List.take_of_length_le (by omega)]
   have hbd:z9w.size=1:=rfl
   clear H
   go_wp2
   go_ret
   exact⟨by rw[← HN.out];rfl,hbk⟩
end Go.Proofs.YteampbddflhngaaGreat
