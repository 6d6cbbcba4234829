package schema

import (
	"slices"

	"armoire/api"
)

// mostNext is how far Next goes: each ID is below it.
const mostNext = 1 << 30

// Right: may a catalog be so?
func Right(c api.Catalog) bool {
	return rightNumbers(c) && rightIDs(c) && rightNames(c) && rightTables(c) && rightIndexes(c)
}

func rightNumbers(c api.Catalog) bool {
	return c.Version >= 0 && c.Next >= 1 && c.Next <= mostNext && len(c.Tables) <= api.MaxTables && len(c.Indexes) <= api.MaxIndexes
}

// rightIDs: a table and an index share none either, since both are counted by Next.
func rightIDs(c api.Catalog) bool {
	tables := each(c.Tables, func(t api.Table) int { return t.ID })
	indexes := each(c.Indexes, func(x api.Index) int { return x.ID })
	return rise(tables, c.Next) && rise(indexes, c.Next) && unlike(slices.Concat(tables, indexes))
}

// rightNames: no two of tables, nor of indexes, are alike; one of each may be.
func rightNames(c api.Catalog) bool {
	tables := each(c.Tables, func(t api.Table) string { return t.Name })
	indexes := each(c.Indexes, func(x api.Index) string { return x.Name })
	return unlike(tables) && unlike(indexes)
}

func rightTables(c api.Catalog) bool {
	for _, t := range c.Tables {
		if !tableFits(t) {
			return false
		}
	}
	return true
}

func rightIndexes(c api.Catalog) bool {
	for _, x := range c.Indexes {
		at := slices.IndexFunc(c.Tables, func(t api.Table) bool { return t.ID == x.Table })
		if at < 0 || !indexFits(x, c.Tables[at]) || x.State < api.DeleteOnly || x.State > api.Removing {
			return false
		}
	}
	return true
}

// tableFits: may a table be so, whatever its ID, and whoever else has its name?
func tableFits(t api.Table) bool {
	return mayBe(t.Name) && columnsFit(t.Columns) && placesFit(t.Key, t) && keyFits(t)
}

// indexFits: may an index of that table be so, whatever its ID and its state, and whoever else has its name?
func indexFits(x api.Index, t api.Table) bool {
	return mayBe(x.Name) && placesFit(x.Columns, t)
}

func columnsFit(l []api.Column) bool {
	if len(l) < 1 || len(l) > api.MaxColumns {
		return false
	}
	for _, c := range l {
		if !mayBe(c.Name) || c.Kind != api.Int && c.Kind != api.Text {
			return false
		}
	}
	return unlike(each(l, func(c api.Column) string { return c.Name }))
}

// placesFit: are these 1 to MaxColumns unlike places of the table's columns?
func placesFit(l []int, t api.Table) bool {
	if len(l) < 1 || len(l) > api.MaxColumns {
		return false
	}
	return slices.Min(l) >= 0 && slices.Max(l) < len(t.Columns) && unlike(l)
}

// keyFits: may no column of the key, whose places fit, be Null?
func keyFits(t api.Table) bool {
	for _, at := range t.Key {
		if t.Columns[at].Null {
			return false
		}
	}
	return true
}

// mayBe: may a name be so?
func mayBe(name string) bool {
	if len(name) < 1 || len(name) > api.MaxText {
		return false
	}
	for i := range len(name) { // its bytes count, not its runes
		c := name[i]
		if (c < 'a' || c > 'z') && (c < '0' || c > '9') && c != '_' {
			return false
		}
	}
	return true
}

// rise: from 1 on, each above the one ahead of it, all below end?
func rise(l []int, end int) bool {
	last := 0
	for _, n := range l {
		if n <= last || n >= end {
			return false
		}
		last = n
	}
	return true
}

// unlike: are no two of a list the same?
func unlike[T comparable](l []T) bool {
	for i, v := range l {
		if slices.Contains(l[:i], v) {
			return false
		}
	}
	return true
}
