package decl

import (
	"slices"

	"hoarstone/api"
	"hoarstone/wire"
)

// The Kinds of items.
const (
	typeKind    = 20 // of a type it is its own Kind more
	rowKind     = 26
	dataKind    = 27
	fieldsKind  = 28
	opKind      = 30
	conPlace    = 32
	opPlace     = 33
	partKind    = 41
	abilityKind = 42
)

// TypeItem returns the item of a type.
func TypeItem(t api.Type) (api.Item, api.Errno) {
	if e := Shape(t); e != api.OK {
		return api.Item{}, e
	}
	return typeItem(t), api.OK
}

// FromItem returns the type of an item.
func FromItem(x api.Item) (api.Type, api.Errno) {
	if e := wire.Check(x); e != api.OK {
		return api.Type{}, e
	}
	t := readType(x)
	// Whatever else is wrong in an item is not there any more when the type is written.
	written, e := TypeItem(t)
	if e != api.OK {
		return api.Type{}, api.ErrForm
	}
	if c, e := wire.Compare(x, written); c != 0 || e != api.OK {
		return api.Type{}, api.ErrForm
	}
	return t, api.OK
}

// typeItem returns the item of a type of the right shape.
func typeItem(t api.Type) api.Item {
	x := api.Item{Kind: typeKind + t.Kind, Num: t.Num, Kids: each(t.Kids, typeItem)}
	switch t.Kind {
	case api.TFun:
		x.Kids = append(x.Kids, rowItem(t.Row))
	case api.TData:
		x.Text = string(t.Ref[:])
	}
	return x
}

// rowItem returns the item of a row.
func rowItem(r api.Row) api.Item {
	x := api.Item{Kind: rowKind}
	if r.Open {
		x.Num = r.Tail + 1
	}
	var text []byte
	for _, ability := range r.List {
		text = append(text, ability[:]...)
	}
	x.Text = string(text)
	return x
}

// dataItem returns the item of a declaration.
func dataItem(d api.Data) api.Item {
	return api.Item{Kind: dataKind, Num: d.Params, Text: d.Unique, Kids: each(d.Cons, fieldsItem)}
}

// fieldsItem returns the item of a constructor.
func fieldsItem(fields []api.Type) api.Item {
	return api.Item{Kind: fieldsKind, Kids: each(fields, typeItem)}
}

// abilityItem returns the item of an ability.
func abilityItem(a api.Ability) api.Item {
	return api.Item{Kind: abilityKind, Text: a.Unique, Kids: each(a.Ops, opItem)}
}

// opItem returns the item of an operation.
func opItem(op api.Op) api.Item {
	return api.Item{Kind: opKind, Kids: []api.Item{typeItem(op.From), typeItem(op.To)}}
}

// readType returns a type that is that of an item, if the item is that of a type.
func readType(x api.Item) api.Type {
	t := api.Type{Kind: x.Kind - typeKind, Num: x.Num}
	kids := x.Kids
	switch last := len(kids) - 1; {
	case t.Kind == api.TFun && last >= 0:
		t.Row = readRow(kids[last])
		kids = kids[:last]
	case t.Kind == api.TData:
		copy(t.Ref[:], x.Text)
	}
	t.Kids = each(kids, readType)
	return t
}

// readRow returns a row that is that of an item, if the item is that of a row.
func readRow(x api.Item) api.Row {
	var r api.Row
	if x.Num > 0 {
		r.Open, r.Tail = true, x.Num-1
	}
	for text := range slices.Chunk([]byte(x.Text), len(api.Sum{})) {
		var ability api.Sum
		copy(ability[:], text)
		r.List = append(r.List, ability)
	}
	return r
}

// readData returns a declaration that is that of an item, if the item is that of a declaration.
func readData(x api.Item) api.Data {
	return api.Data{Unique: x.Text, Params: x.Num, Cons: each(x.Kids, readFields)}
}

// readFields returns the fields of the constructor that has an item, if the item is that of one.
func readFields(x api.Item) []api.Type { return each(x.Kids, readType) }

// readOp returns the operation that has an item, if the item is that of one.
func readOp(x api.Item) api.Op {
	if len(x.Kids) != 2 {
		return api.Op{}
	}
	return api.Op{From: readType(x.Kids[0]), To: readType(x.Kids[1])}
}
